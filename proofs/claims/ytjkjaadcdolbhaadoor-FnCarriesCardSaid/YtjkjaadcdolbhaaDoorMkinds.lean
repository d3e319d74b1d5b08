/- The model's KindsUsed. -/
import Derived.Test.YtjkjaadcdolbhaaDoorMnw
import Derived.Test.YtjkjaadcdolbhaaDoorKx
import Derived.Test.YtjkjaadcdolbhaaDoorInts
import Derived.Deep.Cut
import Derived.Deep.RegionHeld3
import Derived.OwnWalk
namespace Go.Proofs.YtjkjaadcdolbhaaDoor
set_option linter.unusedVariables false
open Go.RowKit

theorem Tryd.infoK : (Tryd.prog.info? 3).map (fun i => (i.zero, i.size, i.bytes)) = some (some (.int .i64 0), 1, 8) := by kernel_rfl
theorem made_own4 (w : World) (B : Nat) (hB : B ≤ w.heap.size) : (w.alloc (.cells (madeCells #[.int .i64 0] 4) 3)).ownsRow B 3 1 (.slice (some ⟨w.heap.size, 0, none⟩) 4 4) 4 (flatC inC [0, 0, 0, 0]) := by
  have ho := World.ownsRow_lit (base := B) (e := 3) (size := 1) w (madeCells #[.int .i64 0] 4) 4 hB (by unfold maxLen; omega) (by simp [madeCells])
  have e : (madeCells #[Value.int .i64 0] 4).toList = flatC inC [0, 0, 0, 0] := by
    refine flatC_of inC_len (by omega) _ _ (by simp [madeCells]) fun i hi j hj => ?_
    have hj0 : j = 0 := by omega
    subst hj0
    have hi' : i < 4 := by simpa using hi
    rcases (by omega : i = 0 ∨ i = 1 ∨ i = 2 ∨ i = 3) with rfl | rfl | rfl | rfl <;> simp [madeCells, inC, Nat.mod_one]
  rw [← e]; exact ho
theorem kindA_small (v d : Int) : kindA v d < 4 := by unfold kindA; split; omega; split; omega; split <;> omega
theorem bump_len (ks : List Int) (j : Nat) : (bump ks j).length = ks.length := List.length_set
theorem bump_cells (ks : List Int) (j : Nat) (x : Int) (hx : x = ks.getD j 0 + 1) : (flatC inC ks).set j (.int .i64 x) = flatC inC (bump ks j) := by
  subst hx
  rw [flat_int, flat_int, bump, List.map_set]
/-- A count is one more. -/
theorem out_bump {w : World} {B ob : Nat} {ks : List Int} (hl : ks.length = 4) (h : w.ownsRow B 3 1 (.slice (some ⟨ob, 0, none⟩) 4 4) 4 (flatC inC ks)) (j : Nat) (x : Int) (hx : x = ks.getD j 0 + 1) :
    (w.setCell ⟨ob, j, none⟩ (.int .i64 x)).ownsRow B 3 1 (.slice (some ⟨ob, 0, none⟩) 4 4) 4 (flatC inC (bump ks j)) := by
  have := (h.stored j (.int .i64 x)).1
  rwa [bump_cells ks j x hx] at this

set_option maxRecDepth 100000 in
set_option maxHeartbeats 3200000 in
theorem speKindsUsed_no (up lo : Int) (sv : Value) (rs : List (Int × Int)) (m : Int) (w : World) (h : RodsR w sv rs) (hc : ¬ canF up lo rs m) :
    Calls Tryd.prog 9 #[.agg #[.int .i64 up, .int .i64 lo, sv], .int .i64 m] w fun e w' => (∃ sq, e = .returned (.tuple #[sq, .bool false]) ∧ RowsR 1 inC w' sq ([] : List Int)) ∧ Below w.heap.size w w' := by
  obtain ⟨a, cp, rfl⟩ : ∃ a c, sv = .slice a rs.length c := by obtain ⟨a, c, e, _⟩ := h; exact ⟨a, c, e⟩
  have hm : rs.length ≤ 9223372036854775807 := by obtain ⟨_, _, _, ⟨m, _⟩, _⟩ := h; exact m
  have HC := Lib.hid hc
  have HB0 : Hid (Below w.heap.size w w) := Lib.hid (Below.refl _ _)
  have HRf0 := Lib.hid (h)
  clear h hc
  go_enter Tryd.func9, Tryd.ntmps9
  go_wp2_with fail
  have hb : Below w.heap.size w (w.alloc (.cells #[.int .i64 up, .int .i64 lo, .slice a rs.length cp] 26)) := (Below.refl _ _).alloc (Nat.le_refl _) _
  have hk : (w.alloc (.cells #[.int .i64 up, .int .i64 lo, .slice a rs.length cp] 26)).heap[w.heap.size]? = some (.cells #[.int .i64 up, .int .i64 lo, .slice a rs.length cp] 26 (0, 0)) := alloc_at rfl
  have hz : (w.alloc (.cells #[.int .i64 up, .int .i64 lo, .slice a rs.length cp] 26)).heap.size = w.heap.size + 1 := by simp
  generalize w.alloc (.cells #[.int .i64 up, .int .i64 lo, .slice a rs.length cp] 26) = w1 at hb hk hz ⊢
  have HB1 : Hid (Below w.heap.size w w1) := Lib.hid (HB0.out.trans (hb.mono HB0.out.size))
  have HZ1 : Hid (w.heap.size ≤ w1.heap.size) := Lib.hid hb.size
  have HRf1 := Lib.hid (HRf0.out.below HB1.out (Nat.le_refl _))
  have HKf1 := Lib.hid hk
  replace HZ1 : Hid (w.heap.size < w1.heap.size) := Lib.hid (by omega)
  have HE1 := Lib.hid hz
  clear hb hk hz
  refine (l6Can_no up lo _ rs m _ HRf1.out HC.out).mono ?_
  rintro e w2 ⟨rfl, hb⟩
  have HB2 : Hid (Below w.heap.size w w2) := Lib.hid (HB1.out.trans (hb.mono HB1.out.size))
  have HZ2 : Hid (w1.heap.size ≤ w2.heap.size) := Lib.hid hb.size
  have HRf2 := Lib.hid (HRf0.out.below HB2.out (Nat.le_refl _))
  have HKf2 := Lib.hid ((hb.block _ (lt_of_block HKf1.out)).trans HKf1.out)
  clear hb
  have ltf := lt_of_block HKf2.out
  obtain ⟨cf0, cf1, cf2, ff0, ff1, ff2⟩ := cell3 HKf2.out
  go_wp2_with fail
  go_ret2
  exact ⟨⟨_, rfl, RowsR.of_own (ps := ([] : List Int)) inC_len (World.ownsRow_made (base := w.heap.size) (e := 3) (size := 1) _ #[] 0 HB2.out.size (Nat.zero_le _) (by simp))⟩, HB2.out.alloc HB2.out.size _⟩

set_option maxRecDepth 100000 in
set_option maxHeartbeats 6400000 in
theorem speKindsUsed_yes (up lo : Int) (sv : Value) (rs : List (Int × Int)) (m : Int) (w : World) (h : RodsR w sv rs) (hc : canF up lo rs m) :
    Calls Tryd.prog 9 #[.agg #[.int .i64 up, .int .i64 lo, sv], .int .i64 m] w fun e w' => (∃ sq, e = .returned (.tuple #[sq, .bool true]) ∧ RowsR 1 inC w' sq (goK 0 (digs rs.length m) rs [0, 0, 0, 0])) ∧ Below w.heap.size w w' := by
  obtain ⟨i0, hi, hz0, hz1, hz2⟩ := info_parts Tryd.infoK
  have HRW := Lib.hid h
  obtain ⟨a, cp, rfl⟩ : ∃ a c, sv = .slice a rs.length c := by obtain ⟨a, c, e, _⟩ := h; exact ⟨a, c, e⟩
  have hm : rs.length ≤ 9223372036854775807 := by obtain ⟨_, _, _, ⟨m, _⟩, _⟩ := h; exact m
  have HC := Lib.hid hc
  have hgo := GoAt.start hc
  generalize goR 0 (digs rs.length m) rs = RT at hgo
  generalize goM 0 (digs rs.length m) rs = MT at hgo
  generalize goC 0 (digs rs.length m) rs = CT at hgo
  generalize goK 0 (digs rs.length m) rs [0, 0, 0, 0] = KT at hgo ⊢
  have HGO := Lib.hid hgo
  have hn0 : 0 < rs.length := by have := hc.1.2.2.2; omega
  have hn1 : rs.length ≤ 8 := hc.1.2.2.2.2
  have hp8 := pow_bd rs.length hn1
  have hm0 : 0 ≤ m := hc.2.2.1
  have hm1 : m ≤ 1000000000 := by have := hc.2.2.2.1; omega
  have hmk : ∀ w : World, (Instr.makeSlice 31 (.int .i64 4) (.int .i64 4)).run Tryd.prog w = .ok (.slice (some ⟨w.heap.size, 0, none⟩) 4 4) (w.alloc (.cells (madeCells #[.int .i64 0] 4) 3)) := fun w => by
    have := run_make (P := Tryd.prog) w 31 3 i0 (.int .i64 0) Tryd.underlying31 hi hz0 .i64 .i64 4 4 (by omega) (Int.le_refl _) (by rw [hz2]; decide) (by omega)
    rw [hz1] at this
    exact this
  obtain ⟨B, hB⟩ : ∃ B, B = w.heap.size + 1 := ⟨_, rfl⟩
  have HBE := Lib.hid hB
  have HB0 : Hid (Below w.heap.size w w) := Lib.hid (Below.refl _ _)
  have HRf0 := Lib.hid (h)
  clear h hc hgo hp8 hB
  go_enter Tryd.func9, Tryd.ntmps9
  go_wp2_with fail
  have hb : Below w.heap.size w (w.alloc (.cells #[.int .i64 up, .int .i64 lo, .slice a rs.length cp] 26)) := (Below.refl _ _).alloc (Nat.le_refl _) _
  have hk : (w.alloc (.cells #[.int .i64 up, .int .i64 lo, .slice a rs.length cp] 26)).heap[w.heap.size]? = some (.cells #[.int .i64 up, .int .i64 lo, .slice a rs.length cp] 26 (0, 0)) := alloc_at rfl
  have hz : (w.alloc (.cells #[.int .i64 up, .int .i64 lo, .slice a rs.length cp] 26)).heap.size = w.heap.size + 1 := by simp
  generalize w.alloc (.cells #[.int .i64 up, .int .i64 lo, .slice a rs.length cp] 26) = w1 at hb hk hz ⊢
  have HB1 : Hid (Below w.heap.size w w1) := Lib.hid (HB0.out.trans (hb.mono HB0.out.size))
  have HZ1 : Hid (w.heap.size ≤ w1.heap.size) := Lib.hid hb.size
  have HRf1 := Lib.hid (HRf0.out.below HB1.out (Nat.le_refl _))
  have HKf1 := Lib.hid hk
  replace HZ1 : Hid (w.heap.size < w1.heap.size) := Lib.hid (by omega)
  have HE1 := Lib.hid hz
  clear hb hk hz
  refine (l6Can_yes up lo _ rs m _ HRf1.out HC.out).mono ?_
  rintro e w2 ⟨rfl, hb⟩
  have HB2 : Hid (Below w.heap.size w w2) := Lib.hid (HB1.out.trans (hb.mono HB1.out.size))
  have HZ2 : Hid (w1.heap.size ≤ w2.heap.size) := Lib.hid hb.size
  have HRf2 := Lib.hid (HRf0.out.below HB2.out (Nat.le_refl _))
  have HKf2 := Lib.hid ((hb.block _ (lt_of_block HKf1.out)).trans HKf1.out)
  clear hb
  have ltf := lt_of_block HKf2.out
  obtain ⟨cf0, cf1, cf2, ff0, ff1, ff2⟩ := cell3 HKf2.out
  go_wp2_with fail
  go_cut [6, 7] from 18 (fun ov nv wc => ∃ (ob N rb rc : Nat), ov = .slice (some ⟨ob, 0, none⟩) 4 4 ∧ nv = .pointer (some ⟨N, 0, none⟩) ∧ NwAt B wc N up lo rb rc rs ∧ wc.ownsRow B 3 1 (.slice (some ⟨ob, 0, none⟩) 4 4) 4 (flatC inC [0, 0, 0, 0]) ∧ wc.heap[w.heap.size]? = some (.cells #[.int .i64 up, .int .i64 lo, .slice a rs.length cp] 26 (0, 0)) ∧ Below w.heap.size w wc)
  case first =>
    have p0 := cf0
    have p1 := cf1
    have p2 := cf2
    have HFx := Lib.hid HKf2.out
    have HWx := Lib.hid HB2.out
    clear cf0 cf1 cf2 ff0 ff1 ff2 ltf
    refine wp_region_held_drew (S := (fun u => u.cell? ⟨w.heap.size, 0, none⟩ = some (.int .i64 up) ∧ u.cell? ⟨w.heap.size, 1, none⟩ = some (.int .i64 lo) ∧ u.cell? ⟨w.heap.size, 2, none⟩ = some (.slice a rs.length cp))) (by kernel_rfl) (⟨p0, p1, p2⟩) (fun hHeld => ?_)
    have hb : Below w2.heap.size w2 w2.drew := (Below.refl _ _).drew
    generalize w2.drew = v1 at hb hHeld ⊢
    have HF1 := Lib.hid ((hb.block _ (lt_of_block HFx.out)).trans HFx.out)
    have HW1 := Lib.hid (HWx.out.trans (hb.mono HWx.out.size))
    clear hb p0 p1 p2
    obtain ⟨p0, p1, p2, -, -, -⟩ := cell3 HF1.out
    refine take1 (i := 1) (v := ?v1) (some 19) rfl rfl (by kernel_rfl) (by kernel_rfl) (by kernel_rfl) (fun _ _ _ h => h) (Or.inl ⟨by rfl, ?y1⟩) (by assumption) ?r1
    case y1 => (intro w hSw; (try dsimp only at hSw); go_simp; (first | done | with_reducible rfl))
    try simp only [Act.put, List.setIfInBounds_toArray, List.set_cons_zero, List.set_cons_succ]
    refine wpAnyH_ready (rs := [0, 2, 3]) (by kernel_rfl) (by simp) ?_
    refine AllReadyH.cons rfl (fun K hK => ?_) (AllReadyH.cons rfl (fun K hK => ?_) (AllReadyH.cons rfl (fun K hK => ?_) (AllReadyH.nil)))
    · go_simp
      have hbs : B ≤ v1.heap.size := by have := lt_of_block HF1.out; have := HBE.out; omega
      have hb : Below v1.heap.size v1 (v1.alloc (.cells (madeCells #[.int .i64 0] 4) 3)) := (Below.refl _ _).alloc (Nat.le_refl _) _
      have ho := made_own4 v1 B hbs
      obtain ⟨ob, hob⟩ : ∃ ob, ob = v1.heap.size := ⟨_, rfl⟩
      rw [← hob] at ho
      simp only [← hob]
      generalize v1.alloc (.cells (madeCells #[.int .i64 0] 4) 3) = v2 at hb ho ⊢
      have HO2 := Lib.hid ho
      clear ho hob hbs
      have HF2 := Lib.hid ((hb.block _ (lt_of_block HF1.out)).trans HF1.out)
      have HW2 := Lib.hid (HW1.out.trans (hb.mono HW1.out.size))
      clear hb
      clear p0 p1 p2
      obtain ⟨p0, p1, p2, -, -, -⟩ := cell3 HF2.out
      refine hK.out _ _ (⟨p0, p1, p2⟩) (fun hHeld => ?_)
      clear hK K
      try simp only [Act.put, List.setIfInBounds_toArray, List.set_cons_zero, List.set_cons_succ]
      refine wpAnyH_ready (rs := [2, 3]) (by kernel_rfl) (by simp) ?_
      refine AllReadyH.cons rfl (fun K hK => ?_) (AllReadyH.cons rfl (fun K hK => ?_) (AllReadyH.nil))
      · go_simp
        have hbs : B ≤ v2.heap.size := by have := lt_of_block HF2.out; have := HBE.out; omega
        go_at_call 25
        refine (l2Own_any up lo _ rs _ (HRW.out.below HW2.out (Nat.le_refl _)) ⟨hn0, by omega⟩).mono ?_
        rintro e v3 ⟨⟨vv, rfl, ho⟩, hb⟩
        obtain ⟨rb0, rc0, rfl⟩ := own_block ho hn0
        have HD3 := Lib.hid (own_mono ho hbs)
        clear ho hbs
        have HF3 := Lib.hid ((hb.block _ (lt_of_block HF2.out)).trans HF2.out)
        have HW3 := Lib.hid (HW2.out.trans (hb.mono HW2.out.size))
        have HO3 := Lib.hid (own_below HO2.out hb)
        clear hb
        clear p0 p1 p2
        obtain ⟨p0, p1, p2, -, -, -⟩ := cell3 HF3.out
        try go_simp
        refine hK.out _ _ (⟨p0, p1, p2⟩) (fun hHeld => ?_)
        clear hK K
        try simp only [Act.put, List.setIfInBounds_toArray, List.set_cons_zero, List.set_cons_succ]
        refine wpAnyH_ready (rs := [3]) (by kernel_rfl) (by simp) ?_
        refine AllReadyH.cons rfl (fun K hK => ?_) AllReadyH.nil
        go_simp
        have hbs : B ≤ v3.heap.size := by have := lt_of_block HF3.out; have := HBE.out; omega
        have hb : Below v3.heap.size v3 (v3.alloc (.cells #[.int .i64 0, .int .i64 0, .slice none 0 0] 26)) := (Below.refl _ _).alloc (Nat.le_refl _) _
        have ht : (v3.alloc (.cells #[.int .i64 0, .int .i64 0, .slice none 0 0] 26)).heap[v3.heap.size]? = some (.cells #[.int .i64 0, .int .i64 0, .slice none 0 0] 26 (0, 0)) := alloc_at rfl
        obtain ⟨T, hTe⟩ : ∃ T, T = v3.heap.size := ⟨_, rfl⟩
        rw [← hTe] at ht hbs
        simp only [← hTe]
        generalize v3.alloc (.cells #[.int .i64 0, .int .i64 0, .slice none 0 0] 26) = v4 at hb ht ⊢
        have HT4 := Lib.hid ht
        have HTB4 := Lib.hid hbs
        clear ht hbs hTe
        have HF4 := Lib.hid ((hb.block _ (lt_of_block HF3.out)).trans HF3.out)
        have HW4 := Lib.hid (HW3.out.trans (hb.mono HW3.out.size))
        have HO4 := Lib.hid (own_below HO3.out hb)
        have HD4 := Lib.hid (own_below HD3.out hb)
        clear hb
        clear p0 p1 p2
        obtain ⟨p0, p1, p2, -, -, -⟩ := cell3 HF4.out
        refine hK.out _ _ (⟨p0, p1, p2⟩) (fun hHeld => ?_)
        clear hK K
        try simp only [Act.put, List.setIfInBounds_toArray, List.set_cons_zero, List.set_cons_succ]
        refine take1 (i := 4) (v := ?v2) (some 6) rfl rfl (by kernel_rfl) (by kernel_rfl) (by kernel_rfl) (fun _ _ _ h => h) (Or.inl ⟨by rfl, ?y2⟩) (by assumption) ?r2
        case y2 => (intro w hSw; (try dsimp only at hSw); go_simp; (first | done | with_reducible rfl))
        try simp only [Act.put, List.setIfInBounds_toArray, List.set_cons_zero, List.set_cons_succ]
        obtain ⟨t0, t1, t2, s0, s1, s2⟩ := cell3 HT4.out
        refine wpAnyH_ready (rs := [5]) (by kernel_rfl) (by simp) ?_
        refine AllReadyH.cons rfl (fun K hK => ?_) AllReadyH.nil
        go_simp
        clear t0 t1 t2 s0 s1 s2
        have ht9 := box3_set HT4.out (.int .i64 up) (.int .i64 lo) (.slice (some ⟨rb0, 0, none⟩) rs.length rc0)
        have hd9 := own_setb3 HD4.out (own_box HD4.out HT4.out (by decide)) (.int .i64 up) (.int .i64 lo) (.slice (some ⟨rb0, 0, none⟩) rs.length rc0)
        have ho9 := own_setb3 HO4.out (own_box HO4.out HT4.out (by decide)) (.int .i64 up) (.int .i64 lo) (.slice (some ⟨rb0, 0, none⟩) rs.length rc0)
        have hTw : w.heap.size ≠ T := by have := HTB4.out; have := HBE.out; omega
        have hf9 : (((v4.setCell ⟨T, 0, none⟩ (.int .i64 up)).setCell ⟨T, 1, none⟩ (.int .i64 lo)).setCell ⟨T, 2, none⟩ (.slice (some ⟨rb0, 0, none⟩) rs.length rc0)).heap[w.heap.size]? = some (.cells #[.int .i64 up, .int .i64 lo, .slice a rs.length cp] 26 (0, 0)) := (Below.heap_setCell _ ⟨T, 2, none⟩ (.slice (some ⟨rb0, 0, none⟩) rs.length rc0) _ hTw).trans ((Below.heap_setCell _ ⟨T, 1, none⟩ (.int .i64 lo) _ hTw).trans ((Below.heap_setCell v4 ⟨T, 0, none⟩ (.int .i64 up) _ hTw).trans HF4.out))
        have hw9 := bl_set3 HW4.out (by have := HTB4.out; have := HBE.out; omega : w.heap.size ≤ T) (.int .i64 up) (.int .i64 lo) (.slice (some ⟨rb0, 0, none⟩) rs.length rc0)
        generalize (((v4.setCell ⟨T, 0, none⟩ (.int .i64 up)).setCell ⟨T, 1, none⟩ (.int .i64 lo)).setCell ⟨T, 2, none⟩ (.slice (some ⟨rb0, 0, none⟩) rs.length rc0)) = v9 at ht9 hd9 ho9 hf9 hw9 ⊢
        clear p0 p1 p2
        obtain ⟨p0, p1, p2, -, -, -⟩ := cell3 hf9
        refine hK.out _ _ (⟨p0, p1, p2⟩) (fun hHeld => ?_)
        clear hK K
        try simp only [Act.put]
        refine wpAnyH_done (by kernel_rfl) ?_ _
        go_wp2_with fail
        go_meet
        exact ⟨ob, T, rb0, rc0, rfl, rfl, ⟨HTB4.out, ht9, hd9⟩, ho9, hf9, hw9⟩
      · go_simp
        have hbs : B ≤ v2.heap.size := by have := lt_of_block HF2.out; have := HBE.out; omega
        have hb : Below v2.heap.size v2 (v2.alloc (.cells #[.int .i64 0, .int .i64 0, .slice none 0 0] 26)) := (Below.refl _ _).alloc (Nat.le_refl _) _
        have ht : (v2.alloc (.cells #[.int .i64 0, .int .i64 0, .slice none 0 0] 26)).heap[v2.heap.size]? = some (.cells #[.int .i64 0, .int .i64 0, .slice none 0 0] 26 (0, 0)) := alloc_at rfl
        obtain ⟨T, hTe⟩ : ∃ T, T = v2.heap.size := ⟨_, rfl⟩
        rw [← hTe] at ht hbs
        simp only [← hTe]
        generalize v2.alloc (.cells #[.int .i64 0, .int .i64 0, .slice none 0 0] 26) = v3 at hb ht ⊢
        have HT3 := Lib.hid ht
        have HTB3 := Lib.hid hbs
        clear ht hbs hTe
        have HF3 := Lib.hid ((hb.block _ (lt_of_block HF2.out)).trans HF2.out)
        have HW3 := Lib.hid (HW2.out.trans (hb.mono HW2.out.size))
        have HO3 := Lib.hid (own_below HO2.out hb)
        clear hb
        clear p0 p1 p2
        obtain ⟨p0, p1, p2, -, -, -⟩ := cell3 HF3.out
        refine hK.out _ _ (⟨p0, p1, p2⟩) (fun hHeld => ?_)
        clear hK K
        try simp only [Act.put, List.setIfInBounds_toArray, List.set_cons_zero, List.set_cons_succ]
        refine wpAnyH_ready (rs := [2]) (by kernel_rfl) (by simp) ?_
        refine AllReadyH.cons rfl (fun K hK => ?_) AllReadyH.nil
        go_simp
        have hbs : B ≤ v3.heap.size := by have := lt_of_block HF3.out; have := HBE.out; omega
        go_at_call 25
        refine (l2Own_any up lo _ rs _ (HRW.out.below HW3.out (Nat.le_refl _)) ⟨hn0, by omega⟩).mono ?_
        rintro e v4 ⟨⟨vv, rfl, ho⟩, hb⟩
        obtain ⟨rb0, rc0, rfl⟩ := own_block ho hn0
        have HD4 := Lib.hid (own_mono ho hbs)
        clear ho hbs
        have HF4 := Lib.hid ((hb.block _ (lt_of_block HF3.out)).trans HF3.out)
        have HW4 := Lib.hid (HW3.out.trans (hb.mono HW3.out.size))
        have HO4 := Lib.hid (own_below HO3.out hb)
        have HT4 := Lib.hid ((hb.block _ (lt_of_block HT3.out)).trans HT3.out)
        have HTB4 := Lib.hid HTB3.out
        clear hb
        clear p0 p1 p2
        obtain ⟨p0, p1, p2, -, -, -⟩ := cell3 HF4.out
        try go_simp
        refine hK.out _ _ (⟨p0, p1, p2⟩) (fun hHeld => ?_)
        clear hK K
        try simp only [Act.put, List.setIfInBounds_toArray, List.set_cons_zero, List.set_cons_succ]
        refine take1 (i := 4) (v := ?v3) (some 6) rfl rfl (by kernel_rfl) (by kernel_rfl) (by kernel_rfl) (fun _ _ _ h => h) (Or.inl ⟨by rfl, ?y3⟩) (by assumption) ?r3
        case y3 => (intro w hSw; (try dsimp only at hSw); go_simp; (first | done | with_reducible rfl))
        try simp only [Act.put, List.setIfInBounds_toArray, List.set_cons_zero, List.set_cons_succ]
        obtain ⟨t0, t1, t2, s0, s1, s2⟩ := cell3 HT4.out
        refine wpAnyH_ready (rs := [5]) (by kernel_rfl) (by simp) ?_
        refine AllReadyH.cons rfl (fun K hK => ?_) AllReadyH.nil
        go_simp
        clear t0 t1 t2 s0 s1 s2
        have ht9 := box3_set HT4.out (.int .i64 up) (.int .i64 lo) (.slice (some ⟨rb0, 0, none⟩) rs.length rc0)
        have hd9 := own_setb3 HD4.out (own_box HD4.out HT4.out (by decide)) (.int .i64 up) (.int .i64 lo) (.slice (some ⟨rb0, 0, none⟩) rs.length rc0)
        have ho9 := own_setb3 HO4.out (own_box HO4.out HT4.out (by decide)) (.int .i64 up) (.int .i64 lo) (.slice (some ⟨rb0, 0, none⟩) rs.length rc0)
        have hTw : w.heap.size ≠ T := by have := HTB4.out; have := HBE.out; omega
        have hf9 : (((v4.setCell ⟨T, 0, none⟩ (.int .i64 up)).setCell ⟨T, 1, none⟩ (.int .i64 lo)).setCell ⟨T, 2, none⟩ (.slice (some ⟨rb0, 0, none⟩) rs.length rc0)).heap[w.heap.size]? = some (.cells #[.int .i64 up, .int .i64 lo, .slice a rs.length cp] 26 (0, 0)) := (Below.heap_setCell _ ⟨T, 2, none⟩ (.slice (some ⟨rb0, 0, none⟩) rs.length rc0) _ hTw).trans ((Below.heap_setCell _ ⟨T, 1, none⟩ (.int .i64 lo) _ hTw).trans ((Below.heap_setCell v4 ⟨T, 0, none⟩ (.int .i64 up) _ hTw).trans HF4.out))
        have hw9 := bl_set3 HW4.out (by have := HTB4.out; have := HBE.out; omega : w.heap.size ≤ T) (.int .i64 up) (.int .i64 lo) (.slice (some ⟨rb0, 0, none⟩) rs.length rc0)
        generalize (((v4.setCell ⟨T, 0, none⟩ (.int .i64 up)).setCell ⟨T, 1, none⟩ (.int .i64 lo)).setCell ⟨T, 2, none⟩ (.slice (some ⟨rb0, 0, none⟩) rs.length rc0)) = v9 at ht9 hd9 ho9 hf9 hw9 ⊢
        clear p0 p1 p2
        obtain ⟨p0, p1, p2, -, -, -⟩ := cell3 hf9
        refine hK.out _ _ (⟨p0, p1, p2⟩) (fun hHeld => ?_)
        clear hK K
        try simp only [Act.put]
        refine wpAnyH_done (by kernel_rfl) ?_ _
        go_wp2_with fail
        go_meet
        exact ⟨ob, T, rb0, rc0, rfl, rfl, ⟨HTB4.out, ht9, hd9⟩, ho9, hf9, hw9⟩
    · go_simp
      have hbs : B ≤ v1.heap.size := by have := lt_of_block HF1.out; have := HBE.out; omega
      go_at_call 25
      refine (l2Own_any up lo _ rs _ (HRW.out.below HW1.out (Nat.le_refl _)) ⟨hn0, by omega⟩).mono ?_
      rintro e v2 ⟨⟨vv, rfl, ho⟩, hb⟩
      obtain ⟨rb0, rc0, rfl⟩ := own_block ho hn0
      have HD2 := Lib.hid (own_mono ho hbs)
      clear ho hbs
      have HF2 := Lib.hid ((hb.block _ (lt_of_block HF1.out)).trans HF1.out)
      have HW2 := Lib.hid (HW1.out.trans (hb.mono HW1.out.size))
      clear hb
      clear p0 p1 p2
      obtain ⟨p0, p1, p2, -, -, -⟩ := cell3 HF2.out
      try go_simp
      refine hK.out _ _ (⟨p0, p1, p2⟩) (fun hHeld => ?_)
      clear hK K
      try simp only [Act.put, List.setIfInBounds_toArray, List.set_cons_zero, List.set_cons_succ]
      refine wpAnyH_ready (rs := [0, 3]) (by kernel_rfl) (by simp) ?_
      refine AllReadyH.cons rfl (fun K hK => ?_) (AllReadyH.cons rfl (fun K hK => ?_) (AllReadyH.nil))
      · go_simp
        have hbs : B ≤ v2.heap.size := by have := lt_of_block HF2.out; have := HBE.out; omega
        have hb : Below v2.heap.size v2 (v2.alloc (.cells (madeCells #[.int .i64 0] 4) 3)) := (Below.refl _ _).alloc (Nat.le_refl _) _
        have ho := made_own4 v2 B hbs
        obtain ⟨ob, hob⟩ : ∃ ob, ob = v2.heap.size := ⟨_, rfl⟩
        rw [← hob] at ho
        simp only [← hob]
        generalize v2.alloc (.cells (madeCells #[.int .i64 0] 4) 3) = v3 at hb ho ⊢
        have HO3 := Lib.hid ho
        clear ho hob hbs
        have HF3 := Lib.hid ((hb.block _ (lt_of_block HF2.out)).trans HF2.out)
        have HW3 := Lib.hid (HW2.out.trans (hb.mono HW2.out.size))
        have HD3 := Lib.hid (own_below HD2.out hb)
        clear hb
        clear p0 p1 p2
        obtain ⟨p0, p1, p2, -, -, -⟩ := cell3 HF3.out
        refine hK.out _ _ (⟨p0, p1, p2⟩) (fun hHeld => ?_)
        clear hK K
        try simp only [Act.put, List.setIfInBounds_toArray, List.set_cons_zero, List.set_cons_succ]
        refine wpAnyH_ready (rs := [3]) (by kernel_rfl) (by simp) ?_
        refine AllReadyH.cons rfl (fun K hK => ?_) AllReadyH.nil
        go_simp
        have hbs : B ≤ v3.heap.size := by have := lt_of_block HF3.out; have := HBE.out; omega
        have hb : Below v3.heap.size v3 (v3.alloc (.cells #[.int .i64 0, .int .i64 0, .slice none 0 0] 26)) := (Below.refl _ _).alloc (Nat.le_refl _) _
        have ht : (v3.alloc (.cells #[.int .i64 0, .int .i64 0, .slice none 0 0] 26)).heap[v3.heap.size]? = some (.cells #[.int .i64 0, .int .i64 0, .slice none 0 0] 26 (0, 0)) := alloc_at rfl
        obtain ⟨T, hTe⟩ : ∃ T, T = v3.heap.size := ⟨_, rfl⟩
        rw [← hTe] at ht hbs
        simp only [← hTe]
        generalize v3.alloc (.cells #[.int .i64 0, .int .i64 0, .slice none 0 0] 26) = v4 at hb ht ⊢
        have HT4 := Lib.hid ht
        have HTB4 := Lib.hid hbs
        clear ht hbs hTe
        have HF4 := Lib.hid ((hb.block _ (lt_of_block HF3.out)).trans HF3.out)
        have HW4 := Lib.hid (HW3.out.trans (hb.mono HW3.out.size))
        have HO4 := Lib.hid (own_below HO3.out hb)
        have HD4 := Lib.hid (own_below HD3.out hb)
        clear hb
        clear p0 p1 p2
        obtain ⟨p0, p1, p2, -, -, -⟩ := cell3 HF4.out
        refine hK.out _ _ (⟨p0, p1, p2⟩) (fun hHeld => ?_)
        clear hK K
        try simp only [Act.put, List.setIfInBounds_toArray, List.set_cons_zero, List.set_cons_succ]
        refine take1 (i := 4) (v := ?v4) (some 6) rfl rfl (by kernel_rfl) (by kernel_rfl) (by kernel_rfl) (fun _ _ _ h => h) (Or.inl ⟨by rfl, ?y4⟩) (by assumption) ?r4
        case y4 => (intro w hSw; (try dsimp only at hSw); go_simp; (first | done | with_reducible rfl))
        try simp only [Act.put, List.setIfInBounds_toArray, List.set_cons_zero, List.set_cons_succ]
        obtain ⟨t0, t1, t2, s0, s1, s2⟩ := cell3 HT4.out
        refine wpAnyH_ready (rs := [5]) (by kernel_rfl) (by simp) ?_
        refine AllReadyH.cons rfl (fun K hK => ?_) AllReadyH.nil
        go_simp
        clear t0 t1 t2 s0 s1 s2
        have ht9 := box3_set HT4.out (.int .i64 up) (.int .i64 lo) (.slice (some ⟨rb0, 0, none⟩) rs.length rc0)
        have hd9 := own_setb3 HD4.out (own_box HD4.out HT4.out (by decide)) (.int .i64 up) (.int .i64 lo) (.slice (some ⟨rb0, 0, none⟩) rs.length rc0)
        have ho9 := own_setb3 HO4.out (own_box HO4.out HT4.out (by decide)) (.int .i64 up) (.int .i64 lo) (.slice (some ⟨rb0, 0, none⟩) rs.length rc0)
        have hTw : w.heap.size ≠ T := by have := HTB4.out; have := HBE.out; omega
        have hf9 : (((v4.setCell ⟨T, 0, none⟩ (.int .i64 up)).setCell ⟨T, 1, none⟩ (.int .i64 lo)).setCell ⟨T, 2, none⟩ (.slice (some ⟨rb0, 0, none⟩) rs.length rc0)).heap[w.heap.size]? = some (.cells #[.int .i64 up, .int .i64 lo, .slice a rs.length cp] 26 (0, 0)) := (Below.heap_setCell _ ⟨T, 2, none⟩ (.slice (some ⟨rb0, 0, none⟩) rs.length rc0) _ hTw).trans ((Below.heap_setCell _ ⟨T, 1, none⟩ (.int .i64 lo) _ hTw).trans ((Below.heap_setCell v4 ⟨T, 0, none⟩ (.int .i64 up) _ hTw).trans HF4.out))
        have hw9 := bl_set3 HW4.out (by have := HTB4.out; have := HBE.out; omega : w.heap.size ≤ T) (.int .i64 up) (.int .i64 lo) (.slice (some ⟨rb0, 0, none⟩) rs.length rc0)
        generalize (((v4.setCell ⟨T, 0, none⟩ (.int .i64 up)).setCell ⟨T, 1, none⟩ (.int .i64 lo)).setCell ⟨T, 2, none⟩ (.slice (some ⟨rb0, 0, none⟩) rs.length rc0)) = v9 at ht9 hd9 ho9 hf9 hw9 ⊢
        clear p0 p1 p2
        obtain ⟨p0, p1, p2, -, -, -⟩ := cell3 hf9
        refine hK.out _ _ (⟨p0, p1, p2⟩) (fun hHeld => ?_)
        clear hK K
        try simp only [Act.put]
        refine wpAnyH_done (by kernel_rfl) ?_ _
        go_wp2_with fail
        go_meet
        exact ⟨ob, T, rb0, rc0, rfl, rfl, ⟨HTB4.out, ht9, hd9⟩, ho9, hf9, hw9⟩
      · go_simp
        have hbs : B ≤ v2.heap.size := by have := lt_of_block HF2.out; have := HBE.out; omega
        have hb : Below v2.heap.size v2 (v2.alloc (.cells #[.int .i64 0, .int .i64 0, .slice none 0 0] 26)) := (Below.refl _ _).alloc (Nat.le_refl _) _
        have ht : (v2.alloc (.cells #[.int .i64 0, .int .i64 0, .slice none 0 0] 26)).heap[v2.heap.size]? = some (.cells #[.int .i64 0, .int .i64 0, .slice none 0 0] 26 (0, 0)) := alloc_at rfl
        obtain ⟨T, hTe⟩ : ∃ T, T = v2.heap.size := ⟨_, rfl⟩
        rw [← hTe] at ht hbs
        simp only [← hTe]
        generalize v2.alloc (.cells #[.int .i64 0, .int .i64 0, .slice none 0 0] 26) = v3 at hb ht ⊢
        have HT3 := Lib.hid ht
        have HTB3 := Lib.hid hbs
        clear ht hbs hTe
        have HF3 := Lib.hid ((hb.block _ (lt_of_block HF2.out)).trans HF2.out)
        have HW3 := Lib.hid (HW2.out.trans (hb.mono HW2.out.size))
        have HD3 := Lib.hid (own_below HD2.out hb)
        clear hb
        clear p0 p1 p2
        obtain ⟨p0, p1, p2, -, -, -⟩ := cell3 HF3.out
        refine hK.out _ _ (⟨p0, p1, p2⟩) (fun hHeld => ?_)
        clear hK K
        try simp only [Act.put, List.setIfInBounds_toArray, List.set_cons_zero, List.set_cons_succ]
        refine wpAnyH_ready (rs := [0]) (by kernel_rfl) (by simp) ?_
        refine AllReadyH.cons rfl (fun K hK => ?_) AllReadyH.nil
        go_simp
        have hbs : B ≤ v3.heap.size := by have := lt_of_block HF3.out; have := HBE.out; omega
        have hb : Below v3.heap.size v3 (v3.alloc (.cells (madeCells #[.int .i64 0] 4) 3)) := (Below.refl _ _).alloc (Nat.le_refl _) _
        have ho := made_own4 v3 B hbs
        obtain ⟨ob, hob⟩ : ∃ ob, ob = v3.heap.size := ⟨_, rfl⟩
        rw [← hob] at ho
        simp only [← hob]
        generalize v3.alloc (.cells (madeCells #[.int .i64 0] 4) 3) = v4 at hb ho ⊢
        have HO4 := Lib.hid ho
        clear ho hob hbs
        have HF4 := Lib.hid ((hb.block _ (lt_of_block HF3.out)).trans HF3.out)
        have HW4 := Lib.hid (HW3.out.trans (hb.mono HW3.out.size))
        have HD4 := Lib.hid (own_below HD3.out hb)
        have HT4 := Lib.hid ((hb.block _ (lt_of_block HT3.out)).trans HT3.out)
        have HTB4 := Lib.hid HTB3.out
        clear hb
        clear p0 p1 p2
        obtain ⟨p0, p1, p2, -, -, -⟩ := cell3 HF4.out
        refine hK.out _ _ (⟨p0, p1, p2⟩) (fun hHeld => ?_)
        clear hK K
        try simp only [Act.put, List.setIfInBounds_toArray, List.set_cons_zero, List.set_cons_succ]
        refine take1 (i := 4) (v := ?v5) (some 6) rfl rfl (by kernel_rfl) (by kernel_rfl) (by kernel_rfl) (fun _ _ _ h => h) (Or.inl ⟨by rfl, ?y5⟩) (by assumption) ?r5
        case y5 => (intro w hSw; (try dsimp only at hSw); go_simp; (first | done | with_reducible rfl))
        try simp only [Act.put, List.setIfInBounds_toArray, List.set_cons_zero, List.set_cons_succ]
        obtain ⟨t0, t1, t2, s0, s1, s2⟩ := cell3 HT4.out
        refine wpAnyH_ready (rs := [5]) (by kernel_rfl) (by simp) ?_
        refine AllReadyH.cons rfl (fun K hK => ?_) AllReadyH.nil
        go_simp
        clear t0 t1 t2 s0 s1 s2
        have ht9 := box3_set HT4.out (.int .i64 up) (.int .i64 lo) (.slice (some ⟨rb0, 0, none⟩) rs.length rc0)
        have hd9 := own_setb3 HD4.out (own_box HD4.out HT4.out (by decide)) (.int .i64 up) (.int .i64 lo) (.slice (some ⟨rb0, 0, none⟩) rs.length rc0)
        have ho9 := own_setb3 HO4.out (own_box HO4.out HT4.out (by decide)) (.int .i64 up) (.int .i64 lo) (.slice (some ⟨rb0, 0, none⟩) rs.length rc0)
        have hTw : w.heap.size ≠ T := by have := HTB4.out; have := HBE.out; omega
        have hf9 : (((v4.setCell ⟨T, 0, none⟩ (.int .i64 up)).setCell ⟨T, 1, none⟩ (.int .i64 lo)).setCell ⟨T, 2, none⟩ (.slice (some ⟨rb0, 0, none⟩) rs.length rc0)).heap[w.heap.size]? = some (.cells #[.int .i64 up, .int .i64 lo, .slice a rs.length cp] 26 (0, 0)) := (Below.heap_setCell _ ⟨T, 2, none⟩ (.slice (some ⟨rb0, 0, none⟩) rs.length rc0) _ hTw).trans ((Below.heap_setCell _ ⟨T, 1, none⟩ (.int .i64 lo) _ hTw).trans ((Below.heap_setCell v4 ⟨T, 0, none⟩ (.int .i64 up) _ hTw).trans HF4.out))
        have hw9 := bl_set3 HW4.out (by have := HTB4.out; have := HBE.out; omega : w.heap.size ≤ T) (.int .i64 up) (.int .i64 lo) (.slice (some ⟨rb0, 0, none⟩) rs.length rc0)
        generalize (((v4.setCell ⟨T, 0, none⟩ (.int .i64 up)).setCell ⟨T, 1, none⟩ (.int .i64 lo)).setCell ⟨T, 2, none⟩ (.slice (some ⟨rb0, 0, none⟩) rs.length rc0)) = v9 at ht9 hd9 ho9 hf9 hw9 ⊢
        clear p0 p1 p2
        obtain ⟨p0, p1, p2, -, -, -⟩ := cell3 hf9
        refine hK.out _ _ (⟨p0, p1, p2⟩) (fun hHeld => ?_)
        clear hK K
        try simp only [Act.put]
        refine wpAnyH_done (by kernel_rfl) ?_ _
        go_wp2_with fail
        go_meet
        exact ⟨ob, T, rb0, rc0, rfl, rfl, ⟨HTB4.out, ht9, hd9⟩, ho9, hf9, hw9⟩
    · go_simp
      have hbs : B ≤ v1.heap.size := by have := lt_of_block HF1.out; have := HBE.out; omega
      have hb : Below v1.heap.size v1 (v1.alloc (.cells #[.int .i64 0, .int .i64 0, .slice none 0 0] 26)) := (Below.refl _ _).alloc (Nat.le_refl _) _
      have ht : (v1.alloc (.cells #[.int .i64 0, .int .i64 0, .slice none 0 0] 26)).heap[v1.heap.size]? = some (.cells #[.int .i64 0, .int .i64 0, .slice none 0 0] 26 (0, 0)) := alloc_at rfl
      obtain ⟨T, hTe⟩ : ∃ T, T = v1.heap.size := ⟨_, rfl⟩
      rw [← hTe] at ht hbs
      simp only [← hTe]
      generalize v1.alloc (.cells #[.int .i64 0, .int .i64 0, .slice none 0 0] 26) = v2 at hb ht ⊢
      have HT2 := Lib.hid ht
      have HTB2 := Lib.hid hbs
      clear ht hbs hTe
      have HF2 := Lib.hid ((hb.block _ (lt_of_block HF1.out)).trans HF1.out)
      have HW2 := Lib.hid (HW1.out.trans (hb.mono HW1.out.size))
      clear hb
      clear p0 p1 p2
      obtain ⟨p0, p1, p2, -, -, -⟩ := cell3 HF2.out
      refine hK.out _ _ (⟨p0, p1, p2⟩) (fun hHeld => ?_)
      clear hK K
      try simp only [Act.put, List.setIfInBounds_toArray, List.set_cons_zero, List.set_cons_succ]
      refine wpAnyH_ready (rs := [0, 2]) (by kernel_rfl) (by simp) ?_
      refine AllReadyH.cons rfl (fun K hK => ?_) (AllReadyH.cons rfl (fun K hK => ?_) (AllReadyH.nil))
      · go_simp
        have hbs : B ≤ v2.heap.size := by have := lt_of_block HF2.out; have := HBE.out; omega
        have hb : Below v2.heap.size v2 (v2.alloc (.cells (madeCells #[.int .i64 0] 4) 3)) := (Below.refl _ _).alloc (Nat.le_refl _) _
        have ho := made_own4 v2 B hbs
        obtain ⟨ob, hob⟩ : ∃ ob, ob = v2.heap.size := ⟨_, rfl⟩
        rw [← hob] at ho
        simp only [← hob]
        generalize v2.alloc (.cells (madeCells #[.int .i64 0] 4) 3) = v3 at hb ho ⊢
        have HO3 := Lib.hid ho
        clear ho hob hbs
        have HF3 := Lib.hid ((hb.block _ (lt_of_block HF2.out)).trans HF2.out)
        have HW3 := Lib.hid (HW2.out.trans (hb.mono HW2.out.size))
        have HT3 := Lib.hid ((hb.block _ (lt_of_block HT2.out)).trans HT2.out)
        have HTB3 := Lib.hid HTB2.out
        clear hb
        clear p0 p1 p2
        obtain ⟨p0, p1, p2, -, -, -⟩ := cell3 HF3.out
        refine hK.out _ _ (⟨p0, p1, p2⟩) (fun hHeld => ?_)
        clear hK K
        try simp only [Act.put, List.setIfInBounds_toArray, List.set_cons_zero, List.set_cons_succ]
        refine wpAnyH_ready (rs := [2]) (by kernel_rfl) (by simp) ?_
        refine AllReadyH.cons rfl (fun K hK => ?_) AllReadyH.nil
        go_simp
        have hbs : B ≤ v3.heap.size := by have := lt_of_block HF3.out; have := HBE.out; omega
        go_at_call 25
        refine (l2Own_any up lo _ rs _ (HRW.out.below HW3.out (Nat.le_refl _)) ⟨hn0, by omega⟩).mono ?_
        rintro e v4 ⟨⟨vv, rfl, ho⟩, hb⟩
        obtain ⟨rb0, rc0, rfl⟩ := own_block ho hn0
        have HD4 := Lib.hid (own_mono ho hbs)
        clear ho hbs
        have HF4 := Lib.hid ((hb.block _ (lt_of_block HF3.out)).trans HF3.out)
        have HW4 := Lib.hid (HW3.out.trans (hb.mono HW3.out.size))
        have HO4 := Lib.hid (own_below HO3.out hb)
        have HT4 := Lib.hid ((hb.block _ (lt_of_block HT3.out)).trans HT3.out)
        have HTB4 := Lib.hid HTB3.out
        clear hb
        clear p0 p1 p2
        obtain ⟨p0, p1, p2, -, -, -⟩ := cell3 HF4.out
        try go_simp
        refine hK.out _ _ (⟨p0, p1, p2⟩) (fun hHeld => ?_)
        clear hK K
        try simp only [Act.put, List.setIfInBounds_toArray, List.set_cons_zero, List.set_cons_succ]
        refine take1 (i := 4) (v := ?v6) (some 6) rfl rfl (by kernel_rfl) (by kernel_rfl) (by kernel_rfl) (fun _ _ _ h => h) (Or.inl ⟨by rfl, ?y6⟩) (by assumption) ?r6
        case y6 => (intro w hSw; (try dsimp only at hSw); go_simp; (first | done | with_reducible rfl))
        try simp only [Act.put, List.setIfInBounds_toArray, List.set_cons_zero, List.set_cons_succ]
        obtain ⟨t0, t1, t2, s0, s1, s2⟩ := cell3 HT4.out
        refine wpAnyH_ready (rs := [5]) (by kernel_rfl) (by simp) ?_
        refine AllReadyH.cons rfl (fun K hK => ?_) AllReadyH.nil
        go_simp
        clear t0 t1 t2 s0 s1 s2
        have ht9 := box3_set HT4.out (.int .i64 up) (.int .i64 lo) (.slice (some ⟨rb0, 0, none⟩) rs.length rc0)
        have hd9 := own_setb3 HD4.out (own_box HD4.out HT4.out (by decide)) (.int .i64 up) (.int .i64 lo) (.slice (some ⟨rb0, 0, none⟩) rs.length rc0)
        have ho9 := own_setb3 HO4.out (own_box HO4.out HT4.out (by decide)) (.int .i64 up) (.int .i64 lo) (.slice (some ⟨rb0, 0, none⟩) rs.length rc0)
        have hTw : w.heap.size ≠ T := by have := HTB4.out; have := HBE.out; omega
        have hf9 : (((v4.setCell ⟨T, 0, none⟩ (.int .i64 up)).setCell ⟨T, 1, none⟩ (.int .i64 lo)).setCell ⟨T, 2, none⟩ (.slice (some ⟨rb0, 0, none⟩) rs.length rc0)).heap[w.heap.size]? = some (.cells #[.int .i64 up, .int .i64 lo, .slice a rs.length cp] 26 (0, 0)) := (Below.heap_setCell _ ⟨T, 2, none⟩ (.slice (some ⟨rb0, 0, none⟩) rs.length rc0) _ hTw).trans ((Below.heap_setCell _ ⟨T, 1, none⟩ (.int .i64 lo) _ hTw).trans ((Below.heap_setCell v4 ⟨T, 0, none⟩ (.int .i64 up) _ hTw).trans HF4.out))
        have hw9 := bl_set3 HW4.out (by have := HTB4.out; have := HBE.out; omega : w.heap.size ≤ T) (.int .i64 up) (.int .i64 lo) (.slice (some ⟨rb0, 0, none⟩) rs.length rc0)
        generalize (((v4.setCell ⟨T, 0, none⟩ (.int .i64 up)).setCell ⟨T, 1, none⟩ (.int .i64 lo)).setCell ⟨T, 2, none⟩ (.slice (some ⟨rb0, 0, none⟩) rs.length rc0)) = v9 at ht9 hd9 ho9 hf9 hw9 ⊢
        clear p0 p1 p2
        obtain ⟨p0, p1, p2, -, -, -⟩ := cell3 hf9
        refine hK.out _ _ (⟨p0, p1, p2⟩) (fun hHeld => ?_)
        clear hK K
        try simp only [Act.put]
        refine wpAnyH_done (by kernel_rfl) ?_ _
        go_wp2_with fail
        go_meet
        exact ⟨ob, T, rb0, rc0, rfl, rfl, ⟨HTB4.out, ht9, hd9⟩, ho9, hf9, hw9⟩
      · go_simp
        have hbs : B ≤ v2.heap.size := by have := lt_of_block HF2.out; have := HBE.out; omega
        go_at_call 25
        refine (l2Own_any up lo _ rs _ (HRW.out.below HW2.out (Nat.le_refl _)) ⟨hn0, by omega⟩).mono ?_
        rintro e v3 ⟨⟨vv, rfl, ho⟩, hb⟩
        obtain ⟨rb0, rc0, rfl⟩ := own_block ho hn0
        have HD3 := Lib.hid (own_mono ho hbs)
        clear ho hbs
        have HF3 := Lib.hid ((hb.block _ (lt_of_block HF2.out)).trans HF2.out)
        have HW3 := Lib.hid (HW2.out.trans (hb.mono HW2.out.size))
        have HT3 := Lib.hid ((hb.block _ (lt_of_block HT2.out)).trans HT2.out)
        have HTB3 := Lib.hid HTB2.out
        clear hb
        clear p0 p1 p2
        obtain ⟨p0, p1, p2, -, -, -⟩ := cell3 HF3.out
        try go_simp
        refine hK.out _ _ (⟨p0, p1, p2⟩) (fun hHeld => ?_)
        clear hK K
        try simp only [Act.put, List.setIfInBounds_toArray, List.set_cons_zero, List.set_cons_succ]
        refine wpAnyH_ready (rs := [0]) (by kernel_rfl) (by simp) ?_
        refine AllReadyH.cons rfl (fun K hK => ?_) AllReadyH.nil
        go_simp
        have hbs : B ≤ v3.heap.size := by have := lt_of_block HF3.out; have := HBE.out; omega
        have hb : Below v3.heap.size v3 (v3.alloc (.cells (madeCells #[.int .i64 0] 4) 3)) := (Below.refl _ _).alloc (Nat.le_refl _) _
        have ho := made_own4 v3 B hbs
        obtain ⟨ob, hob⟩ : ∃ ob, ob = v3.heap.size := ⟨_, rfl⟩
        rw [← hob] at ho
        simp only [← hob]
        generalize v3.alloc (.cells (madeCells #[.int .i64 0] 4) 3) = v4 at hb ho ⊢
        have HO4 := Lib.hid ho
        clear ho hob hbs
        have HF4 := Lib.hid ((hb.block _ (lt_of_block HF3.out)).trans HF3.out)
        have HW4 := Lib.hid (HW3.out.trans (hb.mono HW3.out.size))
        have HD4 := Lib.hid (own_below HD3.out hb)
        have HT4 := Lib.hid ((hb.block _ (lt_of_block HT3.out)).trans HT3.out)
        have HTB4 := Lib.hid HTB3.out
        clear hb
        clear p0 p1 p2
        obtain ⟨p0, p1, p2, -, -, -⟩ := cell3 HF4.out
        refine hK.out _ _ (⟨p0, p1, p2⟩) (fun hHeld => ?_)
        clear hK K
        try simp only [Act.put, List.setIfInBounds_toArray, List.set_cons_zero, List.set_cons_succ]
        refine take1 (i := 4) (v := ?v7) (some 6) rfl rfl (by kernel_rfl) (by kernel_rfl) (by kernel_rfl) (fun _ _ _ h => h) (Or.inl ⟨by rfl, ?y7⟩) (by assumption) ?r7
        case y7 => (intro w hSw; (try dsimp only at hSw); go_simp; (first | done | with_reducible rfl))
        try simp only [Act.put, List.setIfInBounds_toArray, List.set_cons_zero, List.set_cons_succ]
        obtain ⟨t0, t1, t2, s0, s1, s2⟩ := cell3 HT4.out
        refine wpAnyH_ready (rs := [5]) (by kernel_rfl) (by simp) ?_
        refine AllReadyH.cons rfl (fun K hK => ?_) AllReadyH.nil
        go_simp
        clear t0 t1 t2 s0 s1 s2
        have ht9 := box3_set HT4.out (.int .i64 up) (.int .i64 lo) (.slice (some ⟨rb0, 0, none⟩) rs.length rc0)
        have hd9 := own_setb3 HD4.out (own_box HD4.out HT4.out (by decide)) (.int .i64 up) (.int .i64 lo) (.slice (some ⟨rb0, 0, none⟩) rs.length rc0)
        have ho9 := own_setb3 HO4.out (own_box HO4.out HT4.out (by decide)) (.int .i64 up) (.int .i64 lo) (.slice (some ⟨rb0, 0, none⟩) rs.length rc0)
        have hTw : w.heap.size ≠ T := by have := HTB4.out; have := HBE.out; omega
        have hf9 : (((v4.setCell ⟨T, 0, none⟩ (.int .i64 up)).setCell ⟨T, 1, none⟩ (.int .i64 lo)).setCell ⟨T, 2, none⟩ (.slice (some ⟨rb0, 0, none⟩) rs.length rc0)).heap[w.heap.size]? = some (.cells #[.int .i64 up, .int .i64 lo, .slice a rs.length cp] 26 (0, 0)) := (Below.heap_setCell _ ⟨T, 2, none⟩ (.slice (some ⟨rb0, 0, none⟩) rs.length rc0) _ hTw).trans ((Below.heap_setCell _ ⟨T, 1, none⟩ (.int .i64 lo) _ hTw).trans ((Below.heap_setCell v4 ⟨T, 0, none⟩ (.int .i64 up) _ hTw).trans HF4.out))
        have hw9 := bl_set3 HW4.out (by have := HTB4.out; have := HBE.out; omega : w.heap.size ≤ T) (.int .i64 up) (.int .i64 lo) (.slice (some ⟨rb0, 0, none⟩) rs.length rc0)
        generalize (((v4.setCell ⟨T, 0, none⟩ (.int .i64 up)).setCell ⟨T, 1, none⟩ (.int .i64 lo)).setCell ⟨T, 2, none⟩ (.slice (some ⟨rb0, 0, none⟩) rs.length rc0)) = v9 at ht9 hd9 ho9 hf9 hw9 ⊢
        clear p0 p1 p2
        obtain ⟨p0, p1, p2, -, -, -⟩ := cell3 hf9
        refine hK.out _ _ (⟨p0, p1, p2⟩) (fun hHeld => ?_)
        clear hK K
        try simp only [Act.put]
        refine wpAnyH_done (by kernel_rfl) ?_ _
        go_wp2_with fail
        go_meet
        exact ⟨ob, T, rb0, rc0, rfl, rfl, ⟨HTB4.out, ht9, hd9⟩, ho9, hf9, hw9⟩
  case rest =>
    obtain ⟨ob, N, rb0, rc0, rfl, rfl, ha, ho, hf, hb⟩ := hcut
    rename World => wQ
    have HA := Lib.hid ha
    have HOQ := Lib.hid ho
    have HFB := Lib.hid hf
    have HBW := Lib.hid hb
    have HWB : Hid (w.heap.size < B) := Lib.hid (by have := HBE.out; omega)
    have HWB2 : Hid (w.heap.size ≤ B) := Lib.hid (by have := HBE.out; omega)
    clear ha ho hf hb cf0 cf1 cf2 ff0 ff1 ff2 ltf hmk
    go_wp2_with fail
    go_loopw [8] (fun kv wr => ∃ (k : Nat) (rs' : List (Int × Int)) (ms' : List Mv) (c' : Int) (ks' : List Int) (rb rc : Nat), kv = .int .i64 k ∧ NwAt B wr N up lo rb rc rs' ∧ wr.ownsRow B 3 1 (.slice (some ⟨ob, 0, none⟩) 4 4) 4 (flatC inC ks') ∧ ks'.length = 4 ∧ Below B wQ wr ∧ GoAt rs.length m RT MT CT KT k rs' ms' c' ks') (fun kv _ => rs.length - (intOf kv).toNat)
    case atStart => exact ⟨0, rs, [], 0, [0, 0, 0, 0], rb0, rc0, rfl, HA.out, HOQ.out, rfl, Below.refl _ _, HGO.out⟩
    case round =>
      obtain ⟨k, rs', ms', c', ks', rb, rc, rfl, ha, ho, hkl, hb, hg⟩ := hrel
      have HAa := Lib.hid ha
      have HOa := Lib.hid ho
      have HBa := Lib.hid hb
      have HG := Lib.hid hg
      have HST := Lib.hid hg.std
      have HLN := Lib.hid hg.len
      have hkn := hg.le
      have HKL := Lib.hid hkl
      obtain ⟨n0, n1, n2, m0, m1, m2⟩ := cell3 ha.box
      obtain ⟨p0, p1, p2, -, -, -⟩ := cell3 ((hb.block _ HWB.out).trans HFB.out)
      clear ha hb hg ho hkl
      by_cases hlt : k < rs.length
      · obtain ⟨dd, hdd⟩ : ∃ dd, m / 10 ^ (rs.length - 1 - k) % 10 = dd := ⟨_, rfl⟩
        have hd9 : 0 ≤ dd ∧ dd ≤ 9 := by omega
        have HDD := Lib.hid hdd
        have z2 : (k : Int) < (rs.length : Int) := by omega
        clear hdd
        go_wp2_with fail
        refine (l6At_any up lo _ rs m k _ (HRW.out.below (HBW.out.trans (HBa.out.mono HWB2.out)) (Nat.le_refl _)) hn1 hlt hm0 hm1).mono ?_
        rintro e wa ⟨rfl, hb⟩
        rw [HDD.out]
        have HAb := Lib.hid (HAa.out.next hb)
        have HOb := Lib.hid (own_below HOa.out hb)
        have HBb : Hid (Below B wQ wa) := Lib.hid (HBa.out.trans (hb.mono (by have := HAa.out.lt; have := HAa.out.ord; omega)))
        clear hb n0 n1 n2 m0 m1 m2 p0 p1 p2
        by_cases hz : dd = 0
        · have HG2 := Lib.hid (HG.out.zero hlt (by rw [HDD.out]; exact hz))
          have hzb : (dd == 0) = true := by simp [hz]
          go_wp2_with fail
          go_roundw
          case rel => exact ⟨k + 1, _, _, _, _, _, _, by go_num, HAb.out, HOb.out, HKL.out, HBb.out, HG2.out⟩
          case measure => simp [intOf]; omega
        · have hzb : (dd == 0) = false := by simp [hz]
          have hd1 : 0 < dd := by omega
          have hkr : k < rs'.length := by have := HLN.out; omega
          have HG2 := Lib.hid (HG.out.some hlt dd HDD.out hd1)
          obtain ⟨x0, x1⟩ := HAb.out.rodAt hkr
          obtain ⟨n0, n1, n2, m0, m1, m2⟩ := cell3 HAb.out.box
          have hr0 := HST.out k hkr
          have HVV : Hid (5 * rs'[k].1 + rs'[k].2 = vAt rs' k) := Lib.hid (by rw [vAt_in hkr]; rfl)
          have hvb := vAt_bd HST.out k
          have z3 : (k : Int) < (rs'.length : Int) := by omega
          have z4 : (0 : Int) ≤ (k : Int) := by omega
          go_wp2_with fail
          refine (l2Value_any rs'[k].1 rs'[k].2 _ (by omega) (by omega) (by omega) (by omega)).mono ?_
          rintro e wb ⟨rfl, hb⟩
          rw [HVV.out]
          have HAc := Lib.hid (HAb.out.next hb)
          have HOc := Lib.hid (own_below HOb.out hb)
          have HBc : Hid (Below B wQ wb) := Lib.hid (HBb.out.trans (hb.mono (by have := HAb.out.lt; have := HAb.out.ord; omega)))
          clear hb n0 n1 n2 m0 m1 m2 x0 x1
          go_wp2_with fail
          refine (l6Kind_any (vAt rs' k) dd _ hvb ⟨by omega, hd9.2⟩).mono ?_
          rintro e w' ⟨rfl, hw⟩
          subst w'
          obtain ⟨j, hj⟩ : ∃ j, j = kindA (vAt rs' k) dd := ⟨_, rfl⟩
          have hj4 : j < 4 := by rw [hj]; exact kindA_small _ _
          have HJ := Lib.hid hj
          rw [← hj]
          have hkk := HKL.out
          obtain ⟨kj, hkj⟩ : ∃ kj, kj = ks'.getD j 0 := ⟨_, rfl⟩
          have hkb : 0 ≤ kj ∧ kj ≤ 8 := by
            rw [hkj, List.getD_eq_getElem?_getD, List.getElem?_eq_getElem (by omega)]
            have := HG.out.kb _ (List.getElem_mem (show j < ks'.length by omega))
            show 0 ≤ ks'[j] ∧ ks'[j] ≤ 8
            omega
          have o0 : wb.cell? ⟨ob, j, none⟩ = some (.int .i64 kj) := by
            rw [HOc.out.cellAt j (by omega), flat_int, List.getElem?_map, List.getElem?_eq_getElem (by omega), hkj, List.getD_eq_getElem?_getD, List.getElem?_eq_getElem (by omega)]
            rfl
          have o1 := HOc.out.frozenAt j
          have HKJ := Lib.hid hkj
          have hwk : IntKind.i64.wrap (kj + 1) = kj + 1 := by rw [IntKind.wrap_i64]; omega
          have y1 : (0 : Int) ≤ (j : Int) := by omega
          have y2 : (j : Int) < 4 := by omega
          have hon : N ≠ ob := fun e => own_box HOc.out HAc.out.box (by decide) ob rfl e.symm
          have hrn : rb ≠ ob := fun e => by
            obtain ⟨cur, hcur⟩ := own_heap HAc.out.rods (q := rb) rfl
            exact own_box HOc.out hcur (by decide) ob rfl e.symm
          have hod := out_bump HKL.out HOc.out j (kj + 1) (by rw [hkj])
          have had : NwAt B (wb.setCell ⟨ob, j, none⟩ (.int .i64 (kj + 1))) N up lo rb rc rs' := ⟨HAc.out.ord, (Below.heap_setCell wb ⟨ob, j, none⟩ _ N hon).trans HAc.out.box, own_set_box HAc.out.rods (fun q hq => by cases hq; exact hrn) _ _⟩
          have hob := (HOc.out.lt ob rfl).1
          have hbd : Below B wQ (wb.setCell ⟨ob, j, none⟩ (.int .i64 (kj + 1))) := HBc.out.setCell (p := ⟨ob, j, none⟩) hob _
          obtain ⟨wd, hwd⟩ : ∃ wd, wb.setCell ⟨ob, j, none⟩ (.int .i64 (kj + 1)) = wd := ⟨_, rfl⟩
          rw [hwd] at hod had hbd
          have HAd := Lib.hid had
          have HOd := Lib.hid hod
          have HBd := Lib.hid hbd
          obtain ⟨n0, n1, n2, m0, m1, m2⟩ := cell3 had.box
          clear had hod hbd hj hkj
          go_wp2_with fail
          refine (l6Digit_any up lo _ rs' k dd _ (RodsR.of_own HAd.out.rods) HST.out (by have := HLN.out; omega) hkr hd9.1 hd9.2).mono ?_
          rintro e we ⟨⟨g2, c2, rb2, rc2, rfl, hor, hom⟩, hb⟩
          have HSd : Hid (B ≤ wd.heap.size) := Lib.hid (by have := HAd.out.lt; have := HAd.out.ord; omega)
          have HAe := Lib.hid (HAd.out.next hb)
          have HOe := Lib.hid (own_below HOd.out hb)
          have HRe := Lib.hid (own_mono hor HSd.out)
          have HBe : Hid (Below B wQ we) := Lib.hid (HBd.out.trans (hb.mono HSd.out))
          clear hb hor hom n0 n1 n2 m0 m1 m2 hwd o0 o1
          obtain ⟨n0, n1, n2, m0, m1, m2⟩ := cell3 HAe.out.box
          have hN := HAe.out.lt
          go_wp2_with fail
          have hb9 : ∀ (u : World) (o : Obj), Below u.heap.size u (u.alloc o) := fun u o => (Below.refl _ _).alloc (Nat.le_refl _) _
          have HBf := bl_set3 HBe.out HAe.out.ord (.int .i64 up) (.int .i64 lo) (.slice (some ⟨rb2, 0, none⟩) (chR (k + 1) dd rs').length rc2)
          have HSf : B ≤ (((we.setCell ⟨N, 0, none⟩ (.int .i64 up)).setCell ⟨N, 1, none⟩ (.int .i64 lo)).setCell ⟨N, 2, none⟩ (.slice (some ⟨rb2, 0, none⟩) (chR (k + 1) dd rs').length rc2)).heap.size := by have := HAe.out.ord; simp; omega
          have HOf := own_setb3 HOe.out (own_box HOe.out HAe.out.box (by decide)) (.int .i64 up) (.int .i64 lo) (.slice (some ⟨rb2, 0, none⟩) (chR (k + 1) dd rs').length rc2)
          go_roundw
          case rel => exact ⟨k + 1, chR (k + 1) dd rs', _, _, bump ks' j, rb2, rc2, by go_num, (HAe.out.setF HRe.out).next (hb9 _ _), HOf.alloc _, by rw [bump_len]; exact HKL.out, HBf.trans ((hb9 _ _).mono HSf), HJ.out ▸ HG2.out⟩
          case measure => simp [intOf]; omega
      · have hke : k = rs.length := by omega
        subst hke
        have HD : Hid (ks' = KT) := Lib.hid HG.out.done.2.2.2
        have HBF : Hid (Below w.heap.size w wr) := Lib.hid (HBW.out.trans (HBa.out.mono HWB2.out))
        have z2 : ¬ ((rs.length : Int) < (rs.length : Int)) := by omega
        go_wp2_with fail
        go_ret2
        exact ⟨⟨_, rfl, HD.out ▸ RowsR.of_own inC_len (own_relen' HKL.out HOa.out)⟩, HBF.out⟩
end Go.Proofs.YtjkjaadcdolbhaaDoor
