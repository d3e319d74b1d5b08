/- A pupil's level raised: the model's, the program's. -/
import Derived.Test.YtlhcediejccieaaPput
import Derived.Test.YtlhcediejccieaaKa
namespace Go.Proofs.Ytlhcediejccieaa
set_option linter.unusedVariables false
open Go.RowKit

/-- The answer for the pupil at k. -/
def RaiF (ps : List Pu) (k : Nat) (hk : k < ps.length) (qs : List Pu) (t : Bool) : Prop :=
  (ps[k].lvl = 10 ∧ qs = [] ∧ t = false) ∨ (ps[k].lvl ≠ 10 ∧ okL (ps.set k (inCl ps[k] ps[k].cls (ps[k].lvl + 1))) ∧ qs = ps.set k (inCl ps[k] ps[k].cls (ps[k].lvl + 1)) ∧ t = true) ∨
  (ps[k].lvl ≠ 10 ∧ ¬ okL (ps.set k (inCl ps[k] ps[k].cls (ps[k].lvl + 1))) ∧ qs = ps.set k (inCl ps[k] 0 (ps[k].lvl + 1)) ∧ t = true)
theorem raiF_or (ps : List Pu) (k : Nat) (hk : k < ps.length) : ∃ qs t, RaiF ps k hk qs t ∧ qs.length ≤ ps.length := by
  by_cases h : ps[k].lvl = 10
  · exact ⟨[], false, .inl ⟨h, rfl, rfl⟩, by simp⟩
  · by_cases ho : okL (ps.set k (inCl ps[k] ps[k].cls (ps[k].lvl + 1)))
    · exact ⟨_, true, .inr (.inl ⟨h, ho, rfl, rfl⟩), by simp⟩
    · exact ⟨_, true, .inr (.inr ⟨h, ho, rfl, rfl⟩), by simp⟩

set_option maxRecDepth 100000 in
set_option maxHeartbeats 800000 in
theorem specRaise_no (v : Value) (ps : List Pu) (id : Int) (w : World) (h : RowsR 5 puC w v ps) (hs : ∀ p ∈ ps, p.name.size ≤ maxLen) (hl : ps.length ≤ 1048576) (hn : okL ps → fndNo ps id) :
    Calls Try.prog 30 #[v, .int .i64 id] w fun e w' => (∃ sq, e = .returned (.tuple #[sq, .bool false]) ∧ w'.ownsRow w.heap.size 38 5 sq ([] : List Pu).length (flatC puC [])) ∧ Below w.heap.size w w' := by
  have HC := Lib.hid (l3Find_no v ps id w h hs hl hn)
  clear h hs hn
  go_enter Try.func30, Try.ntmps30
  go_wp2_with fail
  refine HC.out.mono ?_
  rintro e w2 ⟨rfl, hb2⟩
  have HB := Lib.hid hb2
  clear hb2
  go_wp2_with fail
  go_ret2
  exact ⟨⟨_, rfl, World.ownsRow_made (base := w.heap.size) (e := 38) (size := 5) _ #[] 0 HB.out.size (Nat.zero_le _) (by simp)⟩, HB.out.alloc HB.out.size _⟩
set_option maxRecDepth 100000 in
set_option maxHeartbeats 800000 in
theorem implRaise_no (v : Value) (ps : List Pu) (id : Int) (w : World) (h : RowsR 5 puC w v ps) (hs : ∀ p ∈ ps, p.name.size ≤ maxLen) (r : Int) (hi : IdxF ps id r false) :
    Calls Try.prog 29 #[v, .int .i64 id] w fun e w' => (∃ sq, e = .returned (.tuple #[sq, .bool false]) ∧ w'.ownsRow w.heap.size 38 5 sq ([] : List Pu).length (flatC puC [])) ∧ Below w.heap.size w w' := by
  have HC := Lib.hid (pupilIndex_any v ps id w h hs r false hi)
  clear h hs hi
  go_enter Try.func29, Try.ntmps29
  go_wp2_with fail
  refine HC.out.mono ?_
  rintro e w2 ⟨rfl, hb2⟩
  have HB := Lib.hid hb2
  clear hb2
  go_wp2_with fail
  go_ret2
  exact ⟨⟨_, rfl, World.ownsRow_made (base := w.heap.size) (e := 38) (size := 5) _ #[] 0 HB.out.size (Nat.zero_le _) (by simp)⟩, HB.out.alloc HB.out.size _⟩
set_option maxRecDepth 100000 in
set_option maxHeartbeats 1600000 in
theorem specRaise_yes (v : Value) (ps : List Pu) (id : Int) (w : World) (h : RowsR 5 puC w v ps) (hs : ∀ p ∈ ps, p.name.size ≤ maxLen) (ho : okL ps) (k : Nat) (hf : fndAt ps id k) (hk : k < ps.length) (qs : List Pu) (t : Bool) (ht : RaiF ps k hk qs t) :
    Calls Try.prog 30 #[v, .int .i64 id] w fun e w' => (∃ sq, e = .returned (.tuple #[sq, .bool t]) ∧ w'.ownsRow w.heap.size 38 5 sq qs.length (flatC puC qs)) ∧ Below w.heap.size w w' := by
  have hl := okL_len ho
  have HC := Lib.hid (l3Find_yes v ps id w h hs ho k hf)
  obtain ⟨a, cp, rfl⟩ := h.form
  have R1 := Lib.hid h.at
  have HR := Lib.hid h
  obtain ⟨v0, v1⟩ := okL_lvl ho k hk
  have z1 : (0 : Int) ≤ (k : Int) := by omega
  have z2 : (k : Int) < (ps.length : Int) := by omega
  by_cases h10 : ps[k].lvl = 10
  · have HT : Hid (qs = [] ∧ t = false) := Lib.hid (by
      rcases ht with ⟨_, h1, h2⟩ | ⟨h0, _⟩ | ⟨h0, _⟩
      · exact ⟨h1, h2⟩
      · exact absurd h10 h0
      · exact absurd h10 h0)
    clear h hs hf ho ht
    go_enter Try.func30, Try.ntmps30
    go_wp2_with fail
    refine HC.out.mono ?_
    rintro e w2 ⟨rfl, hb2⟩
    have HB := Lib.hid hb2
    obtain ⟨b1, o1, rfl, l1, k1⟩ := R1.out _ hb2 k hk
    have p4 : w2.cell? ⟨b1, o1 + k * 5 + 4, none⟩ = some (.int .i64 10) := by rw [← h10]; exact k1 4 (by omega)
    clear hb2 k1 v0 v1 h10
    go_wp2_with fail
    go_ret2
    refine ⟨⟨_, by rw [HT.out.2]; rfl, ?_⟩, HB.out.alloc HB.out.size _⟩
    rw [HT.out.1]
    exact World.ownsRow_made (base := w.heap.size) (e := 38) (size := 5) _ #[] 0 HB.out.size (Nat.zero_le _) (by simp)
  · have HT : Hid ((okL (ps.set k (inCl ps[k] ps[k].cls (ps[k].lvl + 1))) ∧ qs = ps.set k (inCl ps[k] ps[k].cls (ps[k].lvl + 1)) ∧ t = true) ∨ (¬ okL (ps.set k (inCl ps[k] ps[k].cls (ps[k].lvl + 1))) ∧ qs = ps.set k (inCl ps[k] 0 (ps[k].lvl + 1)) ∧ t = true)) := Lib.hid (by
      rcases ht with ⟨h0, _⟩ | ⟨_, h⟩ | ⟨_, h⟩
      · exact absurd h0 h10
      · exact .inl h
      · exact .inr h)
    have h10b : (ps[k].lvl == 10) = false := by rw [beq_eq_false_iff_ne]; exact h10
    have v2 : ps[k].lvl ≤ 9 := by omega
    have HS := Lib.hid (hs_set hs k hk ps[k].cls (ps[k].lvl + 1))
    have HW := Lib.hid (fun w' (hb : Below w.heap.size w w') => l3With_any _ ps w' (HR.out.below hb (Nat.le_refl _)) (by omega) k hk ps[k].cls (ps[k].lvl + 1))
    have HW0 := Lib.hid (fun w' (hb : Below w.heap.size w w') => l3With_any _ ps w' (HR.out.below hb (Nat.le_refl _)) (by omega) k hk 0 (ps[k].lvl + 1))
    have hll : (ps.set k (inCl ps[k] ps[k].cls (ps[k].lvl + 1))).length ≤ 1048576 := by rw [List.length_set]; omega
    have HLL := Lib.hid (show (ps.set k (inCl ps[k] ps[k].cls (ps[k].lvl + 1))).length = ps.length from List.length_set)
    have HLL0 := Lib.hid (show (ps.set k (inCl ps[k] 0 (ps[k].lvl + 1))).length = ps.length from List.length_set)
    generalize ps.set k (inCl ps[k] ps[k].cls (ps[k].lvl + 1)) = qq at HS HT HW hll HLL
    generalize ps.set k (inCl ps[k] 0 (ps[k].lvl + 1)) = qz at HT HW0 HLL0
    clear h hs hf ho ht
    go_enter Try.func30, Try.ntmps30
    go_wp2_with fail
    refine HC.out.mono ?_
    rintro e w2 ⟨rfl, hb2⟩
    have HB := Lib.hid hb2
    obtain ⟨b1, o1, rfl, l1, k1⟩ := R1.out _ hb2 k hk
    have l2 : b1 < w2.heap.size := Nat.lt_of_lt_of_le l1 hb2.size
    have p3 : w2.cell? ⟨b1, o1 + k * 5 + 3, none⟩ = some (.int .i64 ps[k].cls) := k1 3 (by omega)
    have p4 : w2.cell? ⟨b1, o1 + k * 5 + 4, none⟩ = some (.int .i64 ps[k].lvl) := k1 4 (by omega)
    generalize ps[k].lvl = lv at p4 HW HW0 h10b v0 v2
    generalize ps[k].cls = cl at p3 HW
    clear hb2 k1 h10 v1
    have hw1 : IntKind.i64.wrap (lv + 1) = lv + 1 := by rw [IntKind.wrap_i64]; omega
    go_wp2_with fail
    refine wp_region_held_drew (S := (fun w' => w'.cell? ⟨b1, o1 + k * 5 + 3, none⟩ = some (.int .i64 cl) ∧ w'.cell? ⟨b1, o1 + k * 5 + 4, none⟩ = some (.int .i64 lv))) (by kernel_rfl) (⟨p3, p4⟩) (fun hHeld => ?_)
    refine take1 (i := 0) (v := ?v1) (some 22) rfl rfl (by kernel_rfl) (by kernel_rfl) (by kernel_rfl) (fun _ _ _ h => h) (Or.inl ⟨by rfl, ?y1⟩) (by assumption) ?r1
    case y1 => (intro w hSw; (try dsimp only at hSw); go_simp; (first | done | with_reducible rfl))
    try simp only [Act.put, List.setIfInBounds_toArray, List.set_cons_zero, List.set_cons_succ]
    refine take1 (i := 1) (v := ?v2) (some 23) rfl rfl (by kernel_rfl) (by kernel_rfl) (by kernel_rfl) (fun _ _ _ h => h) (Or.inl ⟨by rfl, ?y2⟩) (by assumption) ?r2
    case y2 => (intro w hSw; (try dsimp only at hSw); go_simp; (first | done | with_reducible rfl))
    try simp only [Act.put, List.setIfInBounds_toArray, List.set_cons_zero, List.set_cons_succ]
    refine take1 (i := 2) (v := ?v3) (some 24) rfl rfl (by kernel_rfl) (by kernel_rfl) (by kernel_rfl) (fun _ _ _ h => h) (Or.inl ⟨by rfl, ?y3⟩) (by assumption) ?r3
    case y3 => (intro w hSw; (try dsimp only at hSw); go_simp; (first | done | with_reducible rfl))
    try simp only [Act.put, List.setIfInBounds_toArray, List.set_cons_zero, List.set_cons_succ]
    refine take1 (i := 3) (v := ?v4) (some 25) rfl rfl (by kernel_rfl) (by kernel_rfl) (by kernel_rfl) (fun _ _ _ h => h) (Or.inl ⟨by rfl, ?y4⟩) (by assumption) ?r4
    case y4 => (intro w hSw; (try dsimp only at hSw); go_simp; (first | done | with_reducible rfl))
    try simp only [Act.put, List.setIfInBounds_toArray, List.set_cons_zero, List.set_cons_succ]
    refine take1 (i := 4) (v := ?v5) (some 26) rfl rfl (by kernel_rfl) (by kernel_rfl) (by kernel_rfl) (fun _ _ _ h => h) (Or.inl ⟨by rfl, ?y5⟩) (by assumption) ?r5
    case y5 => (intro w hSw; (try dsimp only at hSw); go_simp; (first | done | with_reducible rfl))
    try simp only [Act.put, List.setIfInBounds_toArray, List.set_cons_zero, List.set_cons_succ]
    refine take1 (i := 5) (v := ?v6) (some 27) rfl rfl (by kernel_rfl) (by kernel_rfl) (by kernel_rfl) (fun _ _ _ h => h) (Or.inl ⟨by rfl, ?y6⟩) (by assumption) ?r6
    case y6 => (intro w hSw; (try dsimp only at hSw); go_simp; (first | done | with_reducible rfl))
    try simp only [Act.put, List.setIfInBounds_toArray, List.set_cons_zero, List.set_cons_succ]
    refine take1 (i := 6) (v := ?v7) (some 28) rfl rfl (by kernel_rfl) (by kernel_rfl) (by kernel_rfl) (fun _ _ _ h => h) (Or.inl ⟨by rfl, ?y7⟩) (by assumption) ?r7
    case y7 => (intro w hSw; (try dsimp only at hSw); go_simp; (first | done | with_reducible rfl))
    try simp only [Act.put, List.setIfInBounds_toArray, List.set_cons_zero, List.set_cons_succ]
    refine take1 (i := 7) (v := ?v8) (some 29) rfl rfl (by kernel_rfl) (by kernel_rfl) (by kernel_rfl) (fun _ _ _ h => h) (Or.inl ⟨by rfl, ?y8⟩) (by assumption) ?r8
    case y8 => (intro w hSw; (try dsimp only at hSw); go_simp; (first | done | with_reducible rfl))
    try simp only [Act.put, List.setIfInBounds_toArray, List.set_cons_zero, List.set_cons_succ]
    refine take1 (i := 8) (v := ?v9) (some 30) rfl rfl (by kernel_rfl) (by kernel_rfl) (by kernel_rfl) (fun _ _ _ h => h) (Or.inl ⟨by rfl, ?y9⟩) (by assumption) ?r9
    case y9 => (intro w hSw; (try dsimp only at hSw); go_simp; (first | done | with_reducible rfl))
    try simp only [Act.put, List.setIfInBounds_toArray, List.set_cons_zero, List.set_cons_succ]
    refine take1 (i := 9) (v := ?v10) (some 31) rfl rfl (by kernel_rfl) (by kernel_rfl) (by kernel_rfl) (fun _ _ _ h => h) (Or.inl ⟨by rfl, ?y10⟩) (by assumption) ?r10
    case y10 => (intro w hSw; (try dsimp only at hSw); go_simp; (first | done | with_reducible rfl))
    try simp only [Act.put, List.setIfInBounds_toArray, List.set_cons_zero, List.set_cons_succ]
    refine take1 (i := 10) (v := ?v11) (some 32) rfl rfl (by kernel_rfl) (by kernel_rfl) (by kernel_rfl) (fun _ _ _ h => h) (Or.inl ⟨by rfl, ?y11⟩) (by assumption) ?r11
    case y11 => (intro w hSw; (try dsimp only at hSw); go_simp; (first | done | with_reducible rfl))
    try simp only [Act.put, List.setIfInBounds_toArray, List.set_cons_zero, List.set_cons_succ]
    refine take1 (i := 11) (v := ?v12) (some 33) rfl rfl (by kernel_rfl) (by kernel_rfl) (by kernel_rfl) (fun _ _ _ h => h) (Or.inl ⟨by rfl, ?y12⟩) (by assumption) ?r12
    case y12 => (intro w hSw; (try dsimp only at hSw); go_simp; (first | done | with_reducible rfl))
    try simp only [Act.put, List.setIfInBounds_toArray, List.set_cons_zero, List.set_cons_succ]
    refine take1 (i := 12) (v := ?v13) (some 34) rfl rfl (by kernel_rfl) (by kernel_rfl) (by kernel_rfl) (fun _ _ _ h => h) (Or.inl ⟨by rfl, ?y13⟩) (by assumption) ?r13
    case y13 => (intro w hSw; (try dsimp only at hSw); go_simp; (first | done | with_reducible rfl))
    try simp only [Act.put, List.setIfInBounds_toArray, List.set_cons_zero, List.set_cons_succ]
    refine wpAnyH_ready (rs := [13]) (by kernel_rfl) (by simp) ?_
    refine AllReadyH.cons rfl (fun K hK => ?_) AllReadyH.nil
    go_simp
    go_at_call 42
    refine (HW.out _ HB.out.drew).mono ?_
    rintro e w3 ⟨⟨v', rfl, hown⟩, hb'⟩
    have hb3 : Below w2.heap.size w2 w3 := Below.trans (Below.drew (Below.refl _ _)) hb'
    have HO := Lib.hid (own_relen' HLL.out hown)
    clear hb' hown
    try go_simp
    refine hK.out _ _ (⟨(hb3.cell (p := ⟨b1, _, none⟩) l2).trans p3, (hb3.cell (p := ⟨b1, _, none⟩) l2).trans p4⟩) (fun hHeld => ?_)
    clear hK K
    try simp only [Act.put, List.setIfInBounds_toArray, List.set_cons_zero, List.set_cons_succ]
    refine take1 (i := 14) (v := ?v14) (some 7) rfl rfl (by kernel_rfl) (by kernel_rfl) (by kernel_rfl) (fun _ _ _ h => h) (Or.inl ⟨by rfl, ?y14⟩) (by assumption) ?r14
    case y14 => (intro w hSw; (try dsimp only at hSw); go_simp; (first | done | with_reducible rfl))
    try simp only [Act.put, List.setIfInBounds_toArray, List.set_cons_zero, List.set_cons_succ]
    refine wpAnyH_done (by kernel_rfl) ?_ _
    have HB3 : Hid (Below w.heap.size w w3) := Lib.hid (HB.out.trans (hb3.mono HB.out.size))
    have p4' : w3.cell? ⟨b1, o1 + k * 5 + 4, none⟩ = some (.int .i64 lv) := (hb3.cell (p := ⟨b1, _, none⟩) l2).trans p4
    have l3 : b1 < w3.heap.size := Nat.lt_of_lt_of_le l2 hb3.size
    have HRQ := Lib.hid (RowsR.of_own puC_len HO.out)
    clear hb3 p3 p4 hHeld
    by_cases hq : okL qq
    · have HTT : Hid (t = true ∧ qs = qq) := Lib.hid (by
        rcases HT.out with ⟨_, h1, h2⟩ | ⟨h0, _⟩
        · exact ⟨h2, h1⟩
        · exact absurd hq h0)
      have HG := Lib.hid (l3Good_yes v' qq w3 HRQ.out HS.out hll hq)
      clear hq
      go_wp2_with fail
      refine HG.out.mono ?_
      rintro e w4 ⟨rfl, hb4⟩
      have HO4 := Lib.hid (own_below HO.out hb4)
      have HB4 : Hid (Below w.heap.size w w4) := Lib.hid (HB3.out.trans (hb4.mono HB3.out.size))
      clear hb4
      go_wp2_with fail
      go_ret2
      refine ⟨⟨v', by rw [HTT.out.1]; rfl, ?_⟩, HB4.out⟩
      rw [HTT.out.2]
      exact own_mono HO4.out HB.out.size
    · have HTT : Hid (t = true ∧ qs = qz) := Lib.hid (by
        rcases HT.out with ⟨h0, _⟩ | ⟨_, h1, h2⟩
        · exact absurd h0 hq
        · exact ⟨h2, h1⟩)
      have HG := Lib.hid (l3Good_no v' qq w3 HRQ.out HS.out hll hq)
      clear hq
      go_wp2_with fail
      refine HG.out.mono ?_
      rintro e w4 ⟨rfl, hb4⟩
      have HB4 : Hid (Below w.heap.size w w4) := Lib.hid (HB3.out.trans (hb4.mono HB3.out.size))
      have p5 : w4.cell? ⟨b1, o1 + k * 5 + 4, none⟩ = some (.int .i64 lv) := (hb4.cell (p := ⟨b1, _, none⟩) l3).trans p4'
      clear hb4 p4'
      go_wp2_with fail
      refine (HW0.out _ HB4.out).mono ?_
      rintro e w5 ⟨⟨vz, rfl, hown⟩, hb5⟩
      have HO5 := Lib.hid (own_relen' HLL0.out hown)
      have HB5 : Hid (Below w.heap.size w w5) := Lib.hid (HB4.out.trans (hb5.mono HB4.out.size))
      clear hb5 hown
      go_wp2_with fail
      go_ret2
      refine ⟨⟨vz, by rw [HTT.out.1]; rfl, ?_⟩, HB5.out⟩
      rw [HTT.out.2]
      exact own_mono HO5.out HB4.out.size
set_option maxRecDepth 100000 in
set_option maxHeartbeats 1600000 in
theorem implRaise_yes (v : Value) (ps : List Pu) (id : Int) (w : World) (h : RowsR 5 puC w v ps) (hs : ∀ p ∈ ps, p.name.size ≤ maxLen) (ho : okL ps) (k : Nat) (hf : fndAt ps id k) (hk : k < ps.length) (qs : List Pu) (t : Bool) (ht : RaiF ps k hk qs t) :
    Calls Try.prog 29 #[v, .int .i64 id] w fun e w' => (∃ sq, e = .returned (.tuple #[sq, .bool t]) ∧ w'.ownsRow w.heap.size 38 5 sq qs.length (flatC puC qs)) ∧ Below w.heap.size w w' := by
  have hl := okL_len ho
  have HC := Lib.hid (pupilIndex_any v ps id w h hs k true (.inl ⟨ho, k, hf, rfl, rfl⟩))
  obtain ⟨a, cp, rfl⟩ := h.form
  have R1 := Lib.hid h.at
  have HR := Lib.hid h
  obtain ⟨v0, v1⟩ := okL_lvl ho k hk
  have z1 : (0 : Int) ≤ (k : Int) := by omega
  have z2 : (k : Int) < (ps.length : Int) := by omega
  by_cases h10 : ps[k].lvl = 10
  · have HT : Hid (qs = [] ∧ t = false) := Lib.hid (by
      rcases ht with ⟨_, h1, h2⟩ | ⟨h0, _⟩ | ⟨h0, _⟩
      · exact ⟨h1, h2⟩
      · exact absurd h10 h0
      · exact absurd h10 h0)
    clear h hs hf ho ht
    go_enter Try.func29, Try.ntmps29
    go_wp2_with fail
    refine HC.out.mono ?_
    rintro e w2 ⟨rfl, hb2⟩
    have HB := Lib.hid hb2
    obtain ⟨b1, o1, rfl, l1, k1⟩ := R1.out _ hb2 k hk
    have p4 : w2.cell? ⟨b1, o1 + k * 5 + 4, none⟩ = some (.int .i64 10) := by rw [← h10]; exact k1 4 (by omega)
    clear hb2 k1 v0 v1 h10
    go_wp2_with fail
    go_ret2
    refine ⟨⟨_, by rw [HT.out.2]; rfl, ?_⟩, HB.out.alloc HB.out.size _⟩
    rw [HT.out.1]
    exact World.ownsRow_made (base := w.heap.size) (e := 38) (size := 5) _ #[] 0 HB.out.size (Nat.zero_le _) (by simp)
  · have HT : Hid ((okL (ps.set k (inCl ps[k] ps[k].cls (ps[k].lvl + 1))) ∧ qs = ps.set k (inCl ps[k] ps[k].cls (ps[k].lvl + 1)) ∧ t = true) ∨ (¬ okL (ps.set k (inCl ps[k] ps[k].cls (ps[k].lvl + 1))) ∧ qs = ps.set k (inCl ps[k] 0 (ps[k].lvl + 1)) ∧ t = true)) := Lib.hid (by
      rcases ht with ⟨h0, _⟩ | ⟨_, h⟩ | ⟨_, h⟩
      · exact absurd h0 h10
      · exact .inl h
      · exact .inr h)
    have h10b : (ps[k].lvl == 10) = false := by rw [beq_eq_false_iff_ne]; exact h10
    have v2 : ps[k].lvl ≤ 9 := by omega
    have HS := Lib.hid (hs_set hs k hk ps[k].cls (ps[k].lvl + 1))
    have HE := Lib.hid (flatC_set1 puC_len ps k 4 hk (by omega) (.int .i64 (ps[k].lvl + 1)) (inCl ps[k] ps[k].cls (ps[k].lvl + 1)) (puC_lvl _ _))
    have hkq : k < (ps.set k (inCl ps[k] ps[k].cls (ps[k].lvl + 1))).length := by rw [List.length_set]; exact hk
    have hge : (ps.set k (inCl ps[k] ps[k].cls (ps[k].lvl + 1)))[k] = inCl ps[k] ps[k].cls (ps[k].lvl + 1) := List.getElem_set_self hkq
    have HE0 := Lib.hid (flatC_set1 puC_len _ k 3 hkq (by omega) (.int .i64 0) (inCl ps[k] 0 (ps[k].lvl + 1)) (by rw [hge]; rfl))
    rw [List.set_set] at HE0
    have HLL := Lib.hid (show (ps.set k (inCl ps[k] ps[k].cls (ps[k].lvl + 1))).length = ps.length from List.length_set)
    have HLL0 := Lib.hid (show (ps.set k (inCl ps[k] 0 (ps[k].lvl + 1))).length = ps.length from List.length_set)
    clear hkq hge
    generalize ps.set k (inCl ps[k] ps[k].cls (ps[k].lvl + 1)) = qq at HS HT HE HE0 HLL
    generalize ps.set k (inCl ps[k] 0 (ps[k].lvl + 1)) = qz at HT HE0 HLL0
    clear h hs hf ho ht
    go_enter Try.func29, Try.ntmps29
    go_wp2_with fail
    refine HC.out.mono ?_
    rintro e w2 ⟨rfl, hb2⟩
    have HB := Lib.hid hb2
    obtain ⟨b1, o1, rfl, l1, k1⟩ := R1.out _ hb2 k hk
    have p4 : w2.cell? ⟨b1, o1 + k * 5 + 4, none⟩ = some (.int .i64 ps[k].lvl) := k1 4 (by omega)
    have HAT : Hid ((flatC puC ps)[k * 5 + 4]? = some (.int .i64 ps[k].lvl)) := Lib.hid (flatC_at puC_len ps k hk 4 (by omega))
    generalize ps[k].lvl = lv at p4 h10b v0 v2 HE HAT
    clear hb2 k1 h10 v1
    go_wp2_with fail
    refine (clonePu_any _ ps w2 (HR.out.below HB.out (Nat.le_refl _)) (by omega)).mono ?_
    rintro e w3 ⟨⟨v', rfl, hown⟩, hb3⟩
    have HB3 : Hid (Below w.heap.size w w3) := Lib.hid (HB.out.trans (hb3.mono HB.out.size))
    clear hb3 p4
    obtain ⟨g, cap, rfl⟩ := own_some hown (by omega)
    have HG : Hid (w2.heap.size ≤ g) := Lib.hid (hown.lt g rfl).1
    have d4 : w3.cell? ⟨g, k * 5 + 4, none⟩ = some (.int .i64 lv) := (hown.cellAt (k * 5 + 4) (by omega)).trans HAT.out
    have f4 : w3.frozen? ⟨g, k * 5 + 4, none⟩ = false := hown.frozenAt _
    have HO := Lib.hid (own_relen' HLL.out (own_eq (hown.stored (k * 5 + 4) (.int .i64 (lv + 1))).1 HE.out))
    have HB4 : Hid (Below w.heap.size w (w3.setCell ⟨g, k * 5 + 4, none⟩ (.int .i64 (lv + 1)))) := Lib.hid (HB3.out.setCell (p := ⟨g, k * 5 + 4, none⟩) (Nat.le_trans HB.out.size HG.out) _)
    clear hown
    go_wp2_with fail
    generalize w3.setCell ⟨g, k * 5 + 4, none⟩ (.int .i64 (lv + 1)) = w4 at HO HB4 ⊢
    have HRQ := Lib.hid (RowsR.of_own puC_len HO.out)
    replace HO := Lib.hid (own_relen' HLL.out.symm HO.out)
    clear d4 f4
    by_cases hq : okL qq
    · have HTT : Hid (t = true ∧ qs = qq) := Lib.hid (by
        rcases HT.out with ⟨_, h1, h2⟩ | ⟨h0, _⟩
        · exact ⟨h2, h1⟩
        · exact absurd hq h0)
      have HGG := Lib.hid (iGood_yes _ qq w4 HRQ.out HS.out hq)
      clear hq
      refine HGG.out.mono ?_
      rintro e w5 ⟨rfl, hb5⟩
      have HO5 := Lib.hid (own_below HO.out hb5)
      have HB5 : Hid (Below w.heap.size w w5) := Lib.hid (HB4.out.trans (hb5.mono HB4.out.size))
      clear hb5
      go_wp2_with fail
      go_ret2
      refine ⟨⟨_, by rw [HTT.out.1]; rfl, ?_⟩, HB5.out⟩
      rw [HTT.out.2, HLL.out]
      exact own_mono HO5.out HB.out.size
    · have HTT : Hid (t = true ∧ qs = qz) := Lib.hid (by
        rcases HT.out with ⟨h0, _⟩ | ⟨_, h1, h2⟩
        · exact absurd h0 hq
        · exact ⟨h2, h1⟩)
      have HGG := Lib.hid (iGood_no _ qq w4 HRQ.out HS.out hq)
      clear hq
      refine HGG.out.mono ?_
      rintro e w5 ⟨rfl, hb5⟩
      have hown5 := own_below HO.out hb5
      have HB5 : Hid (Below w.heap.size w w5) := Lib.hid (HB4.out.trans (hb5.mono HB4.out.size))
      obtain ⟨u3, d3⟩ : ∃ u, w5.cell? ⟨g, k * 5 + 3, none⟩ = some u := ⟨_, (hown5.cellAt (k * 5 + 3) (by omega)).trans (List.getElem?_eq_getElem (by rw [flatC_len puC_len, HLL.out]; omega))⟩
      have f3 : w5.frozen? ⟨g, k * 5 + 3, none⟩ = false := hown5.frozenAt _
      have HO6 := Lib.hid (own_eq (hown5.stored (k * 5 + 3) (.int .i64 0)).1 HE0.out)
      have HB6 : Hid (Below w.heap.size w (w5.setCell ⟨g, k * 5 + 3, none⟩ (.int .i64 0))) := Lib.hid (HB5.out.setCell (p := ⟨g, k * 5 + 3, none⟩) (Nat.le_trans HB.out.size HG.out) _)
      clear hb5 hown5
      go_wp2_with fail
      go_ret2
      refine ⟨⟨_, by rw [HTT.out.1]; rfl, ?_⟩, HB6.out⟩
      rw [HTT.out.2, HLL0.out]
      exact own_mono HO6.out HB.out.size
end Go.Proofs.Ytlhcediejccieaa
