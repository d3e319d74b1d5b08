/- Two pupils change their classes: the model's, the program's. -/
import Derived.Test.YtlhcediejccieaaPraise
namespace Go.Proofs.Ytlhcediejccieaa
set_option linter.unusedVariables false
open Go.RowKit

def FindF (ps : List Pu) (id : Int) (r : Int) : Prop := (okL ps ∧ ∃ k : Nat, fndAt ps id k ∧ r = k) ∨ ((okL ps → fndNo ps id) ∧ r = -1)
theorem l3Find_any (v : Value) (ps : List Pu) (id : Int) (w : World) (h : RowsR 5 puC w v ps) (hs : ∀ p ∈ ps, p.name.size ≤ maxLen) (hl : ps.length ≤ 1048576) (r : Int) (hr : FindF ps id r) :
    Calls Try.prog 40 #[v, .int .i64 id] w fun e w' => e = .returned (.int .i64 r) ∧ Below w.heap.size w w' := by
  rcases hr with ⟨ho, k, hf, rfl⟩ | ⟨hn, rfl⟩
  · exact l3Find_yes v ps id w h hs ho k hf
  · exact l3Find_no v ps id w h hs hl hn
/-- Both tests in one: what the model and the program find. -/
theorem find_or (ps : List Pu) (id : Int) : (∃ k : Nat, okL ps ∧ fndAt ps id k) ∨ (FindF ps id (-1) ∧ ∃ r, IdxF ps id r false) := by
  by_cases h : okL ps ∧ ∃ k, fndAt ps id k
  · obtain ⟨ho, k, hk⟩ := h
    exact .inl ⟨k, ho, hk⟩
  · obtain ⟨hn, r, hi⟩ := idx_no h
    exact .inr ⟨.inr ⟨hn, rfl⟩, r, hi⟩
set_option maxRecDepth 100000 in
set_option maxHeartbeats 1600000 in
theorem specSwap_no (v : Value) (ps : List Pu) (a b : Int) (w : World) (h : RowsR 5 puC w v ps) (hs : ∀ p ∈ ps, p.name.size ≤ maxLen) (hl : ps.length ≤ 1048576) (ra rb : Int) (ha : FindF ps a ra) (hb : FindF ps b rb) (hx : ra < 0 ∨ rb < 0 ∨ ra = rb) :
    Calls Try.prog 15 #[v, .int .i64 a, .int .i64 b] w fun e w' => (∃ sq, e = .returned (.tuple #[sq, .bool false]) ∧ w'.ownsRow w.heap.size 38 5 sq ([] : List Pu).length (flatC puC [])) ∧ Below w.heap.size w w' := by
  have HCA := Lib.hid (l3Find_any v ps a w h hs hl ra ha)
  have HCB := Lib.hid (fun w' (hb' : Below w.heap.size w w') => l3Find_any v ps b w' (h.below hb' (Nat.le_refl _)) hs hl rb hb)
  clear h hs ha hb
  by_cases h1 : ra < 0
  · clear hx
    go_enter Try.func15, Try.ntmps15
    go_wp2_with fail
    refine HCA.out.mono ?_
    rintro e w2 ⟨rfl, hb2⟩
    have HB := Lib.hid hb2
    clear hb2
    go_wp2_with fail
    refine (HCB.out _ HB.out).mono ?_
    rintro e w3 ⟨rfl, hb3⟩
    have HB3 : Hid (Below w.heap.size w w3) := Lib.hid (HB.out.trans (hb3.mono HB.out.size))
    clear hb3
    go_wp2_with fail
    go_ret2
    exact ⟨⟨_, rfl, World.ownsRow_made (base := w.heap.size) (e := 38) (size := 5) _ #[] 0 HB3.out.size (Nat.zero_le _) (by simp)⟩, HB3.out.alloc HB3.out.size _⟩
  · by_cases h2 : rb < 0
    · clear hx
      go_enter Try.func15, Try.ntmps15
      go_wp2_with fail
      refine HCA.out.mono ?_
      rintro e w2 ⟨rfl, hb2⟩
      have HB := Lib.hid hb2
      clear hb2
      go_wp2_with fail
      refine (HCB.out _ HB.out).mono ?_
      rintro e w3 ⟨rfl, hb3⟩
      have HB3 : Hid (Below w.heap.size w w3) := Lib.hid (HB.out.trans (hb3.mono HB.out.size))
      clear hb3
      go_wp2_with fail
      go_ret2
      exact ⟨⟨_, rfl, World.ownsRow_made (base := w.heap.size) (e := 38) (size := 5) _ #[] 0 HB3.out.size (Nat.zero_le _) (by simp)⟩, HB3.out.alloc HB3.out.size _⟩
    · obtain rfl : ra = rb := by omega
      have hbb : (ra == ra) = true := by simp
      clear hx
      go_enter Try.func15, Try.ntmps15
      go_wp2_with fail
      refine HCA.out.mono ?_
      rintro e w2 ⟨rfl, hb2⟩
      have HB := Lib.hid hb2
      clear hb2
      go_wp2_with fail
      refine (HCB.out _ HB.out).mono ?_
      rintro e w3 ⟨rfl, hb3⟩
      have HB3 : Hid (Below w.heap.size w w3) := Lib.hid (HB.out.trans (hb3.mono HB.out.size))
      clear hb3
      go_wp2_with fail
      go_ret2
      exact ⟨⟨_, rfl, World.ownsRow_made (base := w.heap.size) (e := 38) (size := 5) _ #[] 0 HB3.out.size (Nat.zero_le _) (by simp)⟩, HB3.out.alloc HB3.out.size _⟩
set_option maxRecDepth 100000 in
set_option maxHeartbeats 1600000 in
theorem implSwap_no (v : Value) (ps : List Pu) (a b : Int) (w : World) (h : RowsR 5 puC w v ps) (hs : ∀ p ∈ ps, p.name.size ≤ maxLen) (ra rb : Int) (ta tb : Bool) (ha : IdxF ps a ra ta) (hb : IdxF ps b rb tb) (hx : ta = false ∨ tb = false ∨ ra = rb) :
    Calls Try.prog 14 #[v, .int .i64 a, .int .i64 b] w fun e w' => (∃ sq, e = .returned (.tuple #[sq, .bool false]) ∧ w'.ownsRow w.heap.size 38 5 sq ([] : List Pu).length (flatC puC [])) ∧ Below w.heap.size w w' := by
  have HCA := Lib.hid (pupilIndex_any v ps a w h hs ra ta ha)
  have HCB := Lib.hid (fun w' (hb' : Below w.heap.size w w') => pupilIndex_any v ps b w' (h.below hb' (Nat.le_refl _)) hs rb tb hb)
  clear h hs ha hb
  cases ta with
  | false =>
    clear hx
    go_enter Try.func14, Try.ntmps14
    go_wp2_with fail
    refine HCA.out.mono ?_
    rintro e w2 ⟨rfl, hb2⟩
    have HB := Lib.hid hb2
    clear hb2
    go_wp2_with fail
    refine (HCB.out _ HB.out).mono ?_
    rintro e w3 ⟨rfl, hb3⟩
    have HB3 : Hid (Below w.heap.size w w3) := Lib.hid (HB.out.trans (hb3.mono HB.out.size))
    clear hb3
    go_wp2_with fail
    go_ret2
    exact ⟨⟨_, rfl, World.ownsRow_made (base := w.heap.size) (e := 38) (size := 5) _ #[] 0 HB3.out.size (Nat.zero_le _) (by simp)⟩, HB3.out.alloc HB3.out.size _⟩
  | true =>
    cases tb with
    | false =>
      clear hx
      go_enter Try.func14, Try.ntmps14
      go_wp2_with fail
      refine HCA.out.mono ?_
      rintro e w2 ⟨rfl, hb2⟩
      have HB := Lib.hid hb2
      clear hb2
      go_wp2_with fail
      refine (HCB.out _ HB.out).mono ?_
      rintro e w3 ⟨rfl, hb3⟩
      have HB3 : Hid (Below w.heap.size w w3) := Lib.hid (HB.out.trans (hb3.mono HB.out.size))
      clear hb3
      go_wp2_with fail
      go_ret2
      exact ⟨⟨_, rfl, World.ownsRow_made (base := w.heap.size) (e := 38) (size := 5) _ #[] 0 HB3.out.size (Nat.zero_le _) (by simp)⟩, HB3.out.alloc HB3.out.size _⟩
    | true =>
      obtain rfl : ra = rb := by rcases hx with h | h | h; (· cases h); (· cases h); exact h
      have hbb : (ra == ra) = true := by simp
      clear hx
      go_enter Try.func14, Try.ntmps14
      go_wp2_with fail
      refine HCA.out.mono ?_
      rintro e w2 ⟨rfl, hb2⟩
      have HB := Lib.hid hb2
      clear hb2
      go_wp2_with fail
      refine (HCB.out _ HB.out).mono ?_
      rintro e w3 ⟨rfl, hb3⟩
      have HB3 : Hid (Below w.heap.size w w3) := Lib.hid (HB.out.trans (hb3.mono HB.out.size))
      clear hb3
      go_wp2_with fail
      go_ret2
      exact ⟨⟨_, rfl, World.ownsRow_made (base := w.heap.size) (e := 38) (size := 5) _ #[] 0 HB3.out.size (Nat.zero_le _) (by simp)⟩, HB3.out.alloc HB3.out.size _⟩
/-- The list in which both have changed. -/
def swp (ps : List Pu) (i j : Nat) (hi : i < ps.length) (hj : j < ps.length) : List Pu := (ps.set i (inCl ps[i] ps[j].cls ps[i].lvl)).set j (inCl ps[j] ps[i].cls ps[j].lvl)
theorem swp_len (ps : List Pu) (i j : Nat) (hi : i < ps.length) (hj : j < ps.length) : (swp ps i j hi hj).length = ps.length := by unfold swp; simp
theorem swp_hs {ps : List Pu} (hs : ∀ p ∈ ps, p.name.size ≤ maxLen) (i j : Nat) (hi : i < ps.length) (hj : j < ps.length) : ∀ p ∈ swp ps i j hi hj, p.name.size ≤ maxLen := by
  intro p hp
  unfold swp at hp
  rcases List.mem_or_eq_of_mem_set hp with h | rfl
  · rcases List.mem_or_eq_of_mem_set h with h | rfl
    · exact hs p h
    · show (ps[i]).name.size ≤ maxLen
      exact hs _ (List.getElem_mem hi)
  · show (ps[j]).name.size ≤ maxLen
    exact hs _ (List.getElem_mem hj)
set_option maxRecDepth 100000 in
set_option maxHeartbeats 3200000 in
theorem specSwap_yes (v : Value) (ps : List Pu) (a b : Int) (w : World) (h : RowsR 5 puC w v ps) (hs : ∀ p ∈ ps, p.name.size ≤ maxLen) (ho : okL ps) (i j : Nat) (hfi : fndAt ps a i) (hfj : fndAt ps b j) (hi : i < ps.length) (hj : j < ps.length) (hij : i ≠ j) (qs : List Pu) (t : Bool) (ht : (okL (swp ps i j hi hj) ∧ t = true ∧ qs = swp ps i j hi hj) ∨ (¬ okL (swp ps i j hi hj) ∧ t = false ∧ qs = [])) :
    Calls Try.prog 15 #[v, .int .i64 a, .int .i64 b] w fun e w' => (∃ sq, e = .returned (.tuple #[sq, .bool t]) ∧ w'.ownsRow w.heap.size 38 5 sq qs.length (flatC puC qs)) ∧ Below w.heap.size w w' := by
  have hl := okL_len ho
  have HCA := Lib.hid (l3Find_yes v ps a w h hs ho i hfi)
  have HCB := Lib.hid (fun w' (hb' : Below w.heap.size w w') => l3Find_yes v ps b w' (h.below hb' (Nat.le_refl _)) hs ho j hfj)
  obtain ⟨ad, cp, rfl⟩ := h.form
  have R1 := Lib.hid h.at
  have HR := Lib.hid h
  have HS := Lib.hid (swp_hs hs i j hi hj)
  have HT := Lib.hid ht
  have z1 : (0 : Int) ≤ (i : Int) := by omega
  have z2 : (i : Int) < (ps.length : Int) := by omega
  have z3 : (0 : Int) ≤ (j : Int) := by omega
  have z4 : (j : Int) < (ps.length : Int) := by omega
  have hijb : ((i : Int) == (j : Int)) = false := by simp; omega
  have HW1 := Lib.hid (fun w' (hb' : Below w.heap.size w w') => l3With_any _ ps w' (HR.out.below hb' (Nat.le_refl _)) (by omega) i hi ps[j].cls ps[i].lvl)
  have hj1 : j < (ps.set i (inCl ps[i] ps[j].cls ps[i].lvl)).length := by rw [List.length_set]; exact hj
  have hge : (ps.set i (inCl ps[i] ps[j].cls ps[i].lvl))[j] = ps[j] := List.getElem_set_ne hij _
  have HLL1 := Lib.hid (show (ps.set i (inCl ps[i] ps[j].cls ps[i].lvl)).length = ps.length from List.length_set)
  have HW2 := Lib.hid (fun v' w' (hb' : RowsR 5 puC w' v' (ps.set i (inCl ps[i] ps[j].cls ps[i].lvl))) => l3With_any v' _ w' hb' (by rw [List.length_set]; omega) j hj1 ps[i].cls ps[j].lvl)
  rw [hge] at HW2
  change Hid (∀ (v' : Value) (w' : World) (hb' : RowsR 5 puC w' v' (ps.set i (inCl ps[i] ps[j].cls ps[i].lvl))), Calls Try.prog 42 #[v', .int .i64 j, .int .i64 ps[i].cls, .int .i64 ps[j].lvl] w' fun e w'' => (∃ v'', e = .returned v'' ∧ w''.ownsRow w'.heap.size 38 5 v'' (ps.set i (inCl ps[i] ps[j].cls ps[i].lvl)).length (flatC puC (swp ps i j hi hj))) ∧ Below w'.heap.size w' w'') at HW2
  have hll : (swp ps i j hi hj).length ≤ 1048576 := by rw [swp_len]; omega
  have HLL := Lib.hid (show (swp ps i j hi hj).length = (ps.set i (inCl ps[i] ps[j].cls ps[i].lvl)).length by rw [swp_len, List.length_set])
  generalize ps.set i (inCl ps[i] ps[j].cls ps[i].lvl) = q1 at HW1 HW2 HLL HLL1 hj1 hge
  generalize swp ps i j hi hj = qq at HS HT HW2 hll HLL
  clear h hs hfi hfj ho ht hj1 hge
  go_enter Try.func15, Try.ntmps15
  go_wp2_with fail
  refine HCA.out.mono ?_
  rintro e w1 ⟨rfl, hb1⟩
  have HB1 := Lib.hid hb1
  clear hb1
  go_wp2_with fail
  refine (HCB.out _ HB1.out).mono ?_
  rintro e w2 ⟨rfl, hb2⟩
  have HB : Hid (Below w.heap.size w w2) := Lib.hid (HB1.out.trans (hb2.mono HB1.out.size))
  clear hb2
  obtain ⟨b1, o1, rfl, l1, k1⟩ := R1.out _ HB.out i hi
  obtain ⟨b1', o1', e1, _, k2⟩ := R1.out _ HB.out j hj
  obtain ⟨rfl, rfl⟩ : b1 = b1' ∧ o1 = o1' := by injection e1 with e1; injection e1 with e1 e2; exact ⟨e1, e2⟩
  have l2 : b1 < w2.heap.size := Nat.lt_of_lt_of_le l1 HB.out.size
  have p3 : w2.cell? ⟨b1, o1 + i * 5 + 3, none⟩ = some (.int .i64 ps[i].cls) := k1 3 (by omega)
  have p4 : w2.cell? ⟨b1, o1 + i * 5 + 4, none⟩ = some (.int .i64 ps[i].lvl) := k1 4 (by omega)
  have q3 : w2.cell? ⟨b1, o1 + j * 5 + 3, none⟩ = some (.int .i64 ps[j].cls) := k2 3 (by omega)
  have q4 : w2.cell? ⟨b1, o1 + j * 5 + 4, none⟩ = some (.int .i64 ps[j].lvl) := k2 4 (by omega)
  clear k1 k2 e1
  generalize ps[i].cls = ci at p3 HW2
  generalize ps[i].lvl = li at p4 HW1
  generalize ps[j].cls = cj at q3 HW1
  generalize ps[j].lvl = lj at q4 HW2
  go_wp2_with fail
  refine wp_region_held_drew (S := (fun w' => w'.cell? ⟨b1, o1 + i * 5 + 3, none⟩ = some (.int .i64 ci) ∧ w'.cell? ⟨b1, o1 + i * 5 + 4, none⟩ = some (.int .i64 li) ∧ w'.cell? ⟨b1, o1 + j * 5 + 3, none⟩ = some (.int .i64 cj) ∧ w'.cell? ⟨b1, o1 + j * 5 + 4, none⟩ = some (.int .i64 lj))) (by kernel_rfl) (⟨p3, p4, q3, q4⟩) (fun hHeld => ?_)
  refine take1 (i := 0) (v := ?v1) (some 29) rfl rfl (by kernel_rfl) (by kernel_rfl) (by kernel_rfl) (fun _ _ _ h => h) (Or.inl ⟨by rfl, ?y1⟩) (by assumption) ?r1
  case y1 => (intro w hSw; (try dsimp only at hSw); go_simp; (first | done | with_reducible rfl))
  try simp only [Act.put, List.setIfInBounds_toArray, List.set_cons_zero, List.set_cons_succ]
  refine take1 (i := 1) (v := ?v2) (some 30) rfl rfl (by kernel_rfl) (by kernel_rfl) (by kernel_rfl) (fun _ _ _ h => h) (Or.inl ⟨by rfl, ?y2⟩) (by assumption) ?r2
  case y2 => (intro w hSw; (try dsimp only at hSw); go_simp; (first | done | with_reducible rfl))
  try simp only [Act.put, List.setIfInBounds_toArray, List.set_cons_zero, List.set_cons_succ]
  refine take1 (i := 2) (v := ?v3) (some 31) rfl rfl (by kernel_rfl) (by kernel_rfl) (by kernel_rfl) (fun _ _ _ h => h) (Or.inl ⟨by rfl, ?y3⟩) (by assumption) ?r3
  case y3 => (intro w hSw; (try dsimp only at hSw); go_simp; (first | done | with_reducible rfl))
  try simp only [Act.put, List.setIfInBounds_toArray, List.set_cons_zero, List.set_cons_succ]
  refine take1 (i := 3) (v := ?v4) (some 32) rfl rfl (by kernel_rfl) (by kernel_rfl) (by kernel_rfl) (fun _ _ _ h => h) (Or.inl ⟨by rfl, ?y4⟩) (by assumption) ?r4
  case y4 => (intro w hSw; (try dsimp only at hSw); go_simp; (first | done | with_reducible rfl))
  try simp only [Act.put, List.setIfInBounds_toArray, List.set_cons_zero, List.set_cons_succ]
  refine take1 (i := 4) (v := ?v5) (some 33) rfl rfl (by kernel_rfl) (by kernel_rfl) (by kernel_rfl) (fun _ _ _ h => h) (Or.inl ⟨by rfl, ?y5⟩) (by assumption) ?r5
  case y5 => (intro w hSw; (try dsimp only at hSw); go_simp; (first | done | with_reducible rfl))
  try simp only [Act.put, List.setIfInBounds_toArray, List.set_cons_zero, List.set_cons_succ]
  refine take1 (i := 5) (v := ?v6) (some 34) rfl rfl (by kernel_rfl) (by kernel_rfl) (by kernel_rfl) (fun _ _ _ h => h) (Or.inl ⟨by rfl, ?y6⟩) (by assumption) ?r6
  case y6 => (intro w hSw; (try dsimp only at hSw); go_simp; (first | done | with_reducible rfl))
  try simp only [Act.put, List.setIfInBounds_toArray, List.set_cons_zero, List.set_cons_succ]
  refine take1 (i := 6) (v := ?v7) (some 35) rfl rfl (by kernel_rfl) (by kernel_rfl) (by kernel_rfl) (fun _ _ _ h => h) (Or.inl ⟨by rfl, ?y7⟩) (by assumption) ?r7
  case y7 => (intro w hSw; (try dsimp only at hSw); go_simp; (first | done | with_reducible rfl))
  try simp only [Act.put, List.setIfInBounds_toArray, List.set_cons_zero, List.set_cons_succ]
  refine take1 (i := 7) (v := ?v8) (some 36) rfl rfl (by kernel_rfl) (by kernel_rfl) (by kernel_rfl) (fun _ _ _ h => h) (Or.inl ⟨by rfl, ?y8⟩) (by assumption) ?r8
  case y8 => (intro w hSw; (try dsimp only at hSw); go_simp; (first | done | with_reducible rfl))
  try simp only [Act.put, List.setIfInBounds_toArray, List.set_cons_zero, List.set_cons_succ]
  refine take1 (i := 8) (v := ?v9) (some 37) rfl rfl (by kernel_rfl) (by kernel_rfl) (by kernel_rfl) (fun _ _ _ h => h) (Or.inl ⟨by rfl, ?y9⟩) (by assumption) ?r9
  case y9 => (intro w hSw; (try dsimp only at hSw); go_simp; (first | done | with_reducible rfl))
  try simp only [Act.put, List.setIfInBounds_toArray, List.set_cons_zero, List.set_cons_succ]
  refine take1 (i := 9) (v := ?v10) (some 38) rfl rfl (by kernel_rfl) (by kernel_rfl) (by kernel_rfl) (fun _ _ _ h => h) (Or.inl ⟨by rfl, ?y10⟩) (by assumption) ?r10
  case y10 => (intro w hSw; (try dsimp only at hSw); go_simp; (first | done | with_reducible rfl))
  try simp only [Act.put, List.setIfInBounds_toArray, List.set_cons_zero, List.set_cons_succ]
  refine take1 (i := 10) (v := ?v11) (some 39) rfl rfl (by kernel_rfl) (by kernel_rfl) (by kernel_rfl) (fun _ _ _ h => h) (Or.inl ⟨by rfl, ?y11⟩) (by assumption) ?r11
  case y11 => (intro w hSw; (try dsimp only at hSw); go_simp; (first | done | with_reducible rfl))
  try simp only [Act.put, List.setIfInBounds_toArray, List.set_cons_zero, List.set_cons_succ]
  refine take1 (i := 11) (v := ?v12) (some 40) rfl rfl (by kernel_rfl) (by kernel_rfl) (by kernel_rfl) (fun _ _ _ h => h) (Or.inl ⟨by rfl, ?y12⟩) (by assumption) ?r12
  case y12 => (intro w hSw; (try dsimp only at hSw); go_simp; (first | done | with_reducible rfl))
  try simp only [Act.put, List.setIfInBounds_toArray, List.set_cons_zero, List.set_cons_succ]
  refine take1 (i := 13) (v := ?v13) (some 42) rfl rfl (by kernel_rfl) (by kernel_rfl) (by kernel_rfl) (fun _ _ _ h => h) (Or.inl ⟨by rfl, ?y13⟩) (by assumption) ?r13
  case y13 => (intro w hSw; (try dsimp only at hSw); go_simp; (first | done | with_reducible rfl))
  try simp only [Act.put, List.setIfInBounds_toArray, List.set_cons_zero, List.set_cons_succ]
  refine take1 (i := 14) (v := ?v14) (some 43) rfl rfl (by kernel_rfl) (by kernel_rfl) (by kernel_rfl) (fun _ _ _ h => h) (Or.inl ⟨by rfl, ?y14⟩) (by assumption) ?r14
  case y14 => (intro w hSw; (try dsimp only at hSw); go_simp; (first | done | with_reducible rfl))
  try simp only [Act.put, List.setIfInBounds_toArray, List.set_cons_zero, List.set_cons_succ]
  refine take1 (i := 15) (v := ?v15) (some 44) rfl rfl (by kernel_rfl) (by kernel_rfl) (by kernel_rfl) (fun _ _ _ h => h) (Or.inl ⟨by rfl, ?y15⟩) (by assumption) ?r15
  case y15 => (intro w hSw; (try dsimp only at hSw); go_simp; (first | done | with_reducible rfl))
  try simp only [Act.put, List.setIfInBounds_toArray, List.set_cons_zero, List.set_cons_succ]
  refine take1 (i := 16) (v := ?v16) (some 45) rfl rfl (by kernel_rfl) (by kernel_rfl) (by kernel_rfl) (fun _ _ _ h => h) (Or.inl ⟨by rfl, ?y16⟩) (by assumption) ?r16
  case y16 => (intro w hSw; (try dsimp only at hSw); go_simp; (first | done | with_reducible rfl))
  try simp only [Act.put, List.setIfInBounds_toArray, List.set_cons_zero, List.set_cons_succ]
  refine take1 (i := 17) (v := ?v17) (some 46) rfl rfl (by kernel_rfl) (by kernel_rfl) (by kernel_rfl) (fun _ _ _ h => h) (Or.inl ⟨by rfl, ?y17⟩) (by assumption) ?r17
  case y17 => (intro w hSw; (try dsimp only at hSw); go_simp; (first | done | with_reducible rfl))
  try simp only [Act.put, List.setIfInBounds_toArray, List.set_cons_zero, List.set_cons_succ]
  refine take1 (i := 18) (v := ?v18) (some 47) rfl rfl (by kernel_rfl) (by kernel_rfl) (by kernel_rfl) (fun _ _ _ h => h) (Or.inl ⟨by rfl, ?y18⟩) (by assumption) ?r18
  case y18 => (intro w hSw; (try dsimp only at hSw); go_simp; (first | done | with_reducible rfl))
  try simp only [Act.put, List.setIfInBounds_toArray, List.set_cons_zero, List.set_cons_succ]
  refine take1 (i := 19) (v := ?v19) (some 48) rfl rfl (by kernel_rfl) (by kernel_rfl) (by kernel_rfl) (fun _ _ _ h => h) (Or.inl ⟨by rfl, ?y19⟩) (by assumption) ?r19
  case y19 => (intro w hSw; (try dsimp only at hSw); go_simp; (first | done | with_reducible rfl))
  try simp only [Act.put, List.setIfInBounds_toArray, List.set_cons_zero, List.set_cons_succ]
  refine take1 (i := 20) (v := ?v20) (some 49) rfl rfl (by kernel_rfl) (by kernel_rfl) (by kernel_rfl) (fun _ _ _ h => h) (Or.inl ⟨by rfl, ?y20⟩) (by assumption) ?r20
  case y20 => (intro w hSw; (try dsimp only at hSw); go_simp; (first | done | with_reducible rfl))
  try simp only [Act.put, List.setIfInBounds_toArray, List.set_cons_zero, List.set_cons_succ]
  refine take1 (i := 21) (v := ?v21) (some 50) rfl rfl (by kernel_rfl) (by kernel_rfl) (by kernel_rfl) (fun _ _ _ h => h) (Or.inl ⟨by rfl, ?y21⟩) (by assumption) ?r21
  case y21 => (intro w hSw; (try dsimp only at hSw); go_simp; (first | done | with_reducible rfl))
  try simp only [Act.put, List.setIfInBounds_toArray, List.set_cons_zero, List.set_cons_succ]
  refine take1 (i := 22) (v := ?v22) (some 51) rfl rfl (by kernel_rfl) (by kernel_rfl) (by kernel_rfl) (fun _ _ _ h => h) (Or.inl ⟨by rfl, ?y22⟩) (by assumption) ?r22
  case y22 => (intro w hSw; (try dsimp only at hSw); go_simp; (first | done | with_reducible rfl))
  try simp only [Act.put, List.setIfInBounds_toArray, List.set_cons_zero, List.set_cons_succ]
  refine take1 (i := 23) (v := ?v23) (some 52) rfl rfl (by kernel_rfl) (by kernel_rfl) (by kernel_rfl) (fun _ _ _ h => h) (Or.inl ⟨by rfl, ?y23⟩) (by assumption) ?r23
  case y23 => (intro w hSw; (try dsimp only at hSw); go_simp; (first | done | with_reducible rfl))
  try simp only [Act.put, List.setIfInBounds_toArray, List.set_cons_zero, List.set_cons_succ]
  refine wpAnyH_ready (rs := [12]) (by kernel_rfl) (by simp) ?_
  refine AllReadyH.cons rfl (fun K hK => ?_) AllReadyH.nil
  go_simp
  go_at_call 42
  refine (HW1.out _ HB.out.drew).mono ?_
  rintro e w3 ⟨⟨v', rfl, hown⟩, hb'⟩
  have hb3 : Below w2.heap.size w2 w3 := Below.trans (Below.drew (Below.refl _ _)) hb'
  have HO := Lib.hid (own_relen' HLL1.out hown)
  clear hb' hown
  try go_simp
  refine hK.out _ _ (⟨(hb3.cell (p := ⟨b1, _, none⟩) l2).trans p3, (hb3.cell (p := ⟨b1, _, none⟩) l2).trans p4, (hb3.cell (p := ⟨b1, _, none⟩) l2).trans q3, (hb3.cell (p := ⟨b1, _, none⟩) l2).trans q4⟩) (fun hHeld => ?_)
  clear hK K
  try simp only [Act.put, List.setIfInBounds_toArray, List.set_cons_zero, List.set_cons_succ]
  have l3 : b1 < w3.heap.size := Nat.lt_of_lt_of_le l2 hb3.size
  refine wpAnyH_ready (rs := [24]) (by kernel_rfl) (by simp) ?_
  refine AllReadyH.cons rfl (fun K hK => ?_) AllReadyH.nil
  go_simp
  go_at_call 42
  refine (HW2.out v' _ (RowsR.of_own puC_len HO.out)).mono ?_
  rintro e w4 ⟨⟨v'', rfl, hown⟩, hb4⟩
  have HO2 := Lib.hid (own_relen' HLL.out hown)
  clear hown
  try go_simp
  refine hK.out _ _ (⟨(hb4.cell (p := ⟨b1, _, none⟩) l3).trans ((hb3.cell (p := ⟨b1, _, none⟩) l2).trans p3), (hb4.cell (p := ⟨b1, _, none⟩) l3).trans ((hb3.cell (p := ⟨b1, _, none⟩) l2).trans p4), (hb4.cell (p := ⟨b1, _, none⟩) l3).trans ((hb3.cell (p := ⟨b1, _, none⟩) l2).trans q3), (hb4.cell (p := ⟨b1, _, none⟩) l3).trans ((hb3.cell (p := ⟨b1, _, none⟩) l2).trans q4)⟩) (fun hHeld => ?_)
  clear hK K
  try simp only [Act.put, List.setIfInBounds_toArray, List.set_cons_zero, List.set_cons_succ]
  refine take1 (i := 25) (v := ?v24) (some 10) rfl rfl (by kernel_rfl) (by kernel_rfl) (by kernel_rfl) (fun _ _ _ h => h) (Or.inl ⟨by rfl, ?y24⟩) (by assumption) ?r24
  case y24 => (intro w hSw; (try dsimp only at hSw); go_simp; (first | done | with_reducible rfl))
  try simp only [Act.put, List.setIfInBounds_toArray, List.set_cons_zero, List.set_cons_succ]
  refine wpAnyH_done (by kernel_rfl) ?_ _
  have HB3 : Hid (Below w.heap.size w w3) := Lib.hid (HB.out.trans (hb3.mono HB.out.size))
  have HB4 : Hid (Below w.heap.size w w4) := Lib.hid (HB3.out.trans (hb4.mono HB3.out.size))
  have HRQ := Lib.hid (RowsR.of_own puC_len HO2.out)
  clear hb3 hb4 p3 p4 q3 q4 hHeld
  by_cases hq : okL qq
  · have HTT : Hid (t = true ∧ qs = qq) := Lib.hid (by
      rcases HT.out with ⟨_, h1, h2⟩ | ⟨h0, _⟩
      · exact ⟨h1, h2⟩
      · exact absurd hq h0)
    have HG := Lib.hid (l3Good_yes v'' qq w4 HRQ.out HS.out hll hq)
    clear hq
    go_wp2_with fail
    refine HG.out.mono ?_
    rintro e w5 ⟨rfl, hb5⟩
    have HO5 := Lib.hid (own_below HO2.out hb5)
    have HB5 : Hid (Below w.heap.size w w5) := Lib.hid (HB4.out.trans (hb5.mono HB4.out.size))
    clear hb5
    go_wp2_with fail
    go_ret2
    refine ⟨⟨v'', by rw [HTT.out.1]; rfl, ?_⟩, HB5.out⟩
    rw [HTT.out.2]
    exact own_mono HO5.out HB3.out.size
  · have HTT : Hid (t = false ∧ qs = []) := Lib.hid (by
      rcases HT.out with ⟨h0, _⟩ | ⟨_, h1, h2⟩
      · exact absurd h0 hq
      · exact ⟨h1, h2⟩)
    have HG := Lib.hid (l3Good_no v'' qq w4 HRQ.out HS.out hll hq)
    clear hq
    go_wp2_with fail
    refine HG.out.mono ?_
    rintro e w5 ⟨rfl, hb5⟩
    have HB5 : Hid (Below w.heap.size w w5) := Lib.hid (HB4.out.trans (hb5.mono HB4.out.size))
    clear hb5
    go_wp2_with fail
    go_ret2
    refine ⟨⟨_, by rw [HTT.out.1]; rfl, ?_⟩, HB5.out.alloc HB5.out.size _⟩
    rw [HTT.out.2]
    exact World.ownsRow_made (base := w.heap.size) (e := 38) (size := 5) _ #[] 0 HB5.out.size (Nat.zero_le _) (by simp)
set_option maxRecDepth 100000 in
set_option maxHeartbeats 3200000 in
theorem implSwap_yes (v : Value) (ps : List Pu) (a b : Int) (w : World) (h : RowsR 5 puC w v ps) (hs : ∀ p ∈ ps, p.name.size ≤ maxLen) (ho : okL ps) (i j : Nat) (hfi : fndAt ps a i) (hfj : fndAt ps b j) (hi : i < ps.length) (hj : j < ps.length) (hij : i ≠ j) (qs : List Pu) (t : Bool) (ht : (okL (swp ps i j hi hj) ∧ t = true ∧ qs = swp ps i j hi hj) ∨ (¬ okL (swp ps i j hi hj) ∧ t = false ∧ qs = [])) :
    Calls Try.prog 14 #[v, .int .i64 a, .int .i64 b] w fun e w' => (∃ sq, e = .returned (.tuple #[sq, .bool t]) ∧ w'.ownsRow w.heap.size 38 5 sq qs.length (flatC puC qs)) ∧ Below w.heap.size w w' := by
  have hl := okL_len ho
  have HCA := Lib.hid (pupilIndex_any v ps a w h hs i true (.inl ⟨ho, i, hfi, rfl, rfl⟩))
  have HCB := Lib.hid (fun w' (hb' : Below w.heap.size w w') => pupilIndex_any v ps b w' (h.below hb' (Nat.le_refl _)) hs j true (.inl ⟨ho, j, hfj, rfl, rfl⟩))
  obtain ⟨ad, cp, rfl⟩ := h.form
  have R1 := Lib.hid h.at
  have HR := Lib.hid h
  have HS := Lib.hid (swp_hs hs i j hi hj)
  have HT := Lib.hid ht
  have z1 : (0 : Int) ≤ (i : Int) := by omega
  have z2 : (i : Int) < (ps.length : Int) := by omega
  have z3 : (0 : Int) ≤ (j : Int) := by omega
  have z4 : (j : Int) < (ps.length : Int) := by omega
  have hijb : ((i : Int) == (j : Int)) = false := by simp; omega
  have hj1 : j < (ps.set i (inCl ps[i] ps[j].cls ps[i].lvl)).length := by rw [List.length_set]; exact hj
  have hge : (ps.set i (inCl ps[i] ps[j].cls ps[i].lvl))[j] = ps[j] := List.getElem_set_ne hij _
  have HE1 := flatC_set1 puC_len ps i 3 hi (by omega) (.int .i64 ps[j].cls) (inCl ps[i] ps[j].cls ps[i].lvl) (puC_cls _ _)
  have HE2 := flatC_set1 puC_len (ps.set i (inCl ps[i] ps[j].cls ps[i].lvl)) j 3 hj1 (by omega) (.int .i64 ps[i].cls) (inCl ps[j] ps[i].cls ps[j].lvl) (by rw [hge]; exact puC_cls _ _)
  have HE : Hid (((flatC puC ps).set (i * 5 + 3) (.int .i64 ps[j].cls)).set (j * 5 + 3) (.int .i64 ps[i].cls) = flatC puC (swp ps i j hi hj)) := Lib.hid (by rw [HE1, HE2]; rfl)
  have HLL := Lib.hid (swp_len ps i j hi hj)
  generalize swp ps i j hi hj = qq at HS HT HE HLL
  clear h hs hfi hfj ho ht hj1 hge HE1 HE2
  go_enter Try.func14, Try.ntmps14
  go_wp2_with fail
  refine HCA.out.mono ?_
  rintro e w1 ⟨rfl, hb1⟩
  have HB1 := Lib.hid hb1
  clear hb1
  go_wp2_with fail
  refine (HCB.out _ HB1.out).mono ?_
  rintro e w2 ⟨rfl, hb2⟩
  have HB : Hid (Below w.heap.size w w2) := Lib.hid (HB1.out.trans (hb2.mono HB1.out.size))
  clear hb2
  go_wp2_with fail
  refine (clonePu_any _ ps w2 (HR.out.below HB.out (Nat.le_refl _)) (by omega)).mono ?_
  rintro e w3 ⟨⟨v', rfl, hown⟩, hb3⟩
  have HB3 : Hid (Below w.heap.size w w3) := Lib.hid (HB.out.trans (hb3.mono HB.out.size))
  obtain ⟨b1, o1, rfl, l1, k1⟩ := R1.out _ HB3.out i hi
  obtain ⟨b1', o1', e1, _, k2⟩ := R1.out _ HB3.out j hj
  obtain ⟨rfl, rfl⟩ : b1 = b1' ∧ o1 = o1' := by injection e1 with e1; injection e1 with e1 e2; exact ⟨e1, e2⟩
  have l2 : b1 < w2.heap.size := Nat.lt_of_lt_of_le l1 HB.out.size
  have p3 : w3.cell? ⟨b1, o1 + i * 5 + 3, none⟩ = some (.int .i64 ps[i].cls) := k1 3 (by omega)
  have q3 : w3.cell? ⟨b1, o1 + j * 5 + 3, none⟩ = some (.int .i64 ps[j].cls) := k2 3 (by omega)
  generalize ps[i].cls = ci at p3 HE
  generalize ps[j].cls = cj at q3 HE
  clear hb3 k1 k2 e1
  obtain ⟨g, cap, rfl⟩ := own_some hown (by omega)
  have hg2 : w2.heap.size ≤ g := (hown.lt g rfl).1
  have hgb : b1 ≠ g := by omega
  obtain ⟨ui, di⟩ : ∃ u, w3.cell? ⟨g, i * 5 + 3, none⟩ = some u := ⟨_, (hown.cellAt (i * 5 + 3) (by omega)).trans (List.getElem?_eq_getElem (by rw [flatC_len puC_len]; omega))⟩
  obtain ⟨uj, dj⟩ : ∃ u, w3.cell? ⟨g, j * 5 + 3, none⟩ = some u := ⟨_, (hown.cellAt (j * 5 + 3) (by omega)).trans (List.getElem?_eq_getElem (by rw [flatC_len puC_len]; omega))⟩
  have fi : w3.frozen? ⟨g, i * 5 + 3, none⟩ = false := hown.frozenAt _
  have fj : w3.frozen? ⟨g, j * 5 + 3, none⟩ = false := hown.frozenAt _
  have HO := Lib.hid (own_eq ((hown.stored (i * 5 + 3) (.int .i64 cj)).1.stored (j * 5 + 3) (.int .i64 ci)).1 HE.out)
  have HB4 : Hid (Below w.heap.size w ((w3.setCell ⟨g, i * 5 + 3, none⟩ (.int .i64 cj)).setCell ⟨g, j * 5 + 3, none⟩ (.int .i64 ci))) := Lib.hid ((HB3.out.setCell (p := ⟨g, i * 5 + 3, none⟩) (Nat.le_trans HB.out.size hg2) _).setCell (p := ⟨g, j * 5 + 3, none⟩) (Nat.le_trans HB.out.size hg2) _)
  clear hown
  have hij5 : i * 5 + 3 ≠ j * 5 + 3 := by omega
  have hji5 : j * 5 + 3 ≠ i * 5 + 3 := by omega
  have hne' : g ≠ b1 := Ne.symm hgb
  go_wp2_with fail
  refine wp_region_held_drew (S := (fun w' => w'.cell? ⟨b1, o1 + i * 5 + 3, none⟩ = some (.int .i64 ci) ∧ w'.cell? ⟨b1, o1 + j * 5 + 3, none⟩ = some (.int .i64 cj))) (by kernel_rfl) (⟨p3, q3⟩) (fun hHeld => ?_)
  refine take1 (i := 0) (v := ?v25) (some 39) rfl rfl (by kernel_rfl) (by kernel_rfl) (by kernel_rfl) (fun _ _ _ h => h) (Or.inl ⟨by rfl, ?y25⟩) (by assumption) ?r25
  case y25 => (intro w hSw; (try dsimp only at hSw); go_simp; (first | done | with_reducible rfl))
  try simp only [Act.put, List.setIfInBounds_toArray, List.set_cons_zero, List.set_cons_succ]
  refine take1 (i := 1) (v := ?v26) (some 40) rfl rfl (by kernel_rfl) (by kernel_rfl) (by kernel_rfl) (fun _ _ _ h => h) (Or.inl ⟨by rfl, ?y26⟩) (by assumption) ?r26
  case y26 => (intro w hSw; (try dsimp only at hSw); go_simp; (first | done | with_reducible rfl))
  try simp only [Act.put, List.setIfInBounds_toArray, List.set_cons_zero, List.set_cons_succ]
  refine take1 (i := 2) (v := ?v27) (some 41) rfl rfl (by kernel_rfl) (by kernel_rfl) (by kernel_rfl) (fun _ _ _ h => h) (Or.inl ⟨by rfl, ?y27⟩) (by assumption) ?r27
  case y27 => (intro w hSw; (try dsimp only at hSw); go_simp; (first | done | with_reducible rfl))
  try simp only [Act.put, List.setIfInBounds_toArray, List.set_cons_zero, List.set_cons_succ]
  refine take1 (i := 3) (v := ?v28) (some 42) rfl rfl (by kernel_rfl) (by kernel_rfl) (by kernel_rfl) (fun _ _ _ h => h) (Or.inl ⟨by rfl, ?y28⟩) (by assumption) ?r28
  case y28 => (intro w hSw; (try dsimp only at hSw); go_simp; (first | done | with_reducible rfl))
  try simp only [Act.put, List.setIfInBounds_toArray, List.set_cons_zero, List.set_cons_succ]
  refine take1 (i := 4) (v := ?v29) (some 43) rfl rfl (by kernel_rfl) (by kernel_rfl) (by kernel_rfl) (fun _ _ _ h => h) (Or.inl ⟨by rfl, ?y29⟩) (by assumption) ?r29
  case y29 => (intro w hSw; (try dsimp only at hSw); go_simp; (first | done | with_reducible rfl))
  try simp only [Act.put, List.setIfInBounds_toArray, List.set_cons_zero, List.set_cons_succ]
  refine take1 (i := 5) (v := ?v30) (some 44) rfl rfl (by kernel_rfl) (by kernel_rfl) (by kernel_rfl) (fun _ _ _ h => h) (Or.inl ⟨by rfl, ?y30⟩) (by assumption) ?r30
  case y30 => (intro w hSw; (try dsimp only at hSw); go_simp; (first | done | with_reducible rfl))
  try simp only [Act.put, List.setIfInBounds_toArray, List.set_cons_zero, List.set_cons_succ]
  refine take1 (i := 6) (v := ?v31) (some 45) rfl rfl (by kernel_rfl) (by kernel_rfl) (by kernel_rfl) (fun _ _ _ h => h) (Or.inl ⟨by rfl, ?y31⟩) (by assumption) ?r31
  case y31 => (intro w hSw; (try dsimp only at hSw); go_simp; (first | done | with_reducible rfl))
  try simp only [Act.put, List.setIfInBounds_toArray, List.set_cons_zero, List.set_cons_succ]
  refine take1 (i := 7) (v := ?v32) (some 46) rfl rfl (by kernel_rfl) (by kernel_rfl) (by kernel_rfl) (fun _ _ _ h => h) (Or.inl ⟨by rfl, ?y32⟩) (by assumption) ?r32
  case y32 => (intro w hSw; (try dsimp only at hSw); go_simp; (first | done | with_reducible rfl))
  try simp only [Act.put, List.setIfInBounds_toArray, List.set_cons_zero, List.set_cons_succ]
  refine take1 (i := 8) (v := ?v33) (some 47) rfl rfl (by kernel_rfl) (by kernel_rfl) (by kernel_rfl) (fun _ _ _ h => h) (Or.inl ⟨by rfl, ?y33⟩) (by assumption) ?r33
  case y33 => (intro w hSw; (try dsimp only at hSw); go_simp; (first | done | with_reducible rfl))
  try simp only [Act.put, List.setIfInBounds_toArray, List.set_cons_zero, List.set_cons_succ]
  refine take1 (i := 9) (v := ?v34) (some 48) rfl rfl (by kernel_rfl) (by kernel_rfl) (by kernel_rfl) (fun _ _ _ h => h) (Or.inl ⟨by rfl, ?y34⟩) (by assumption) ?r34
  case y34 => (intro w hSw; (try dsimp only at hSw); go_simp; (first | done | with_reducible rfl))
  try simp only [Act.put, List.setIfInBounds_toArray, List.set_cons_zero, List.set_cons_succ]
  refine take1 (i := 10) (v := ?v35) (some 49) rfl rfl (by kernel_rfl) (by kernel_rfl) (by kernel_rfl) (fun _ _ _ h => h) (Or.inl ⟨by rfl, ?y35⟩) (by assumption) ?r35
  case y35 => (intro w hSw; (try dsimp only at hSw); go_simp; (first | done | with_reducible rfl))
  try simp only [Act.put, List.setIfInBounds_toArray, List.set_cons_zero, List.set_cons_succ]
  refine take1 (i := 11) (v := ?v36) (some 50) rfl rfl (by kernel_rfl) (by kernel_rfl) (by kernel_rfl) (fun _ _ _ h => h) (Or.inl ⟨by rfl, ?y36⟩) (by assumption) ?r36
  case y36 => (intro w hSw; (try dsimp only at hSw); go_simp; (first | done | with_reducible rfl))
  try simp only [Act.put, List.setIfInBounds_toArray, List.set_cons_zero, List.set_cons_succ]
  refine take1 (i := 12) (v := ?v37) (some 51) rfl rfl (by kernel_rfl) (by kernel_rfl) (by kernel_rfl) (fun _ _ _ h => h) (Or.inl ⟨by rfl, ?y37⟩) (by assumption) ?r37
  case y37 => (intro w hSw; (try dsimp only at hSw); go_simp; (first | done | with_reducible rfl))
  try simp only [Act.put, List.setIfInBounds_toArray, List.set_cons_zero, List.set_cons_succ]
  refine take1 (i := 13) (v := ?v38) (some 52) rfl rfl (by kernel_rfl) (by kernel_rfl) (by kernel_rfl) (fun _ _ _ h => h) (Or.inl ⟨by rfl, ?y38⟩) (by assumption) ?r38
  case y38 => (intro w hSw; (try dsimp only at hSw); go_simp; (first | done | with_reducible rfl))
  try simp only [Act.put, List.setIfInBounds_toArray, List.set_cons_zero, List.set_cons_succ]
  refine take1 (i := 14) (v := ?v39) (some 53) rfl rfl (by kernel_rfl) (by kernel_rfl) (by kernel_rfl) (fun _ _ _ h => h) (Or.inl ⟨by rfl, ?y39⟩) (by assumption) ?r39
  case y39 => (intro w hSw; (try dsimp only at hSw); go_simp; (first | done | with_reducible rfl))
  try simp only [Act.put, List.setIfInBounds_toArray, List.set_cons_zero, List.set_cons_succ]
  refine take1 (i := 15) (v := ?v40) (some 54) rfl rfl (by kernel_rfl) (by kernel_rfl) (by kernel_rfl) (fun _ _ _ h => h) (Or.inl ⟨by rfl, ?y40⟩) (by assumption) ?r40
  case y40 => (intro w hSw; (try dsimp only at hSw); go_simp; (first | done | with_reducible rfl))
  try simp only [Act.put, List.setIfInBounds_toArray, List.set_cons_zero, List.set_cons_succ]
  refine wpAnyH_ready (rs := [16]) (by kernel_rfl) (by simp) ?_
  refine AllReadyH.cons rfl (fun K hK => ?_) AllReadyH.nil
  go_simp
  refine hK.out _ _ (⟨((Below.refl w2.heap.size w3).drew.setCell (p := ⟨g, i * 5 + 3, none⟩) hg2 _).cell (p := ⟨b1, _, none⟩) l2 |>.trans p3, ((Below.refl w2.heap.size w3).drew.setCell (p := ⟨g, i * 5 + 3, none⟩) hg2 _).cell (p := ⟨b1, _, none⟩) l2 |>.trans q3⟩) (fun hHeld => ?_)
  clear hK K
  try simp only [Act.put, List.setIfInBounds_toArray, List.set_cons_zero, List.set_cons_succ]
  refine take1 (i := 17) (v := ?v41) (some 55) rfl rfl (by kernel_rfl) (by kernel_rfl) (by kernel_rfl) (fun _ _ _ h => h) (Or.inl ⟨by rfl, ?y41⟩) (by assumption) ?r41
  case y41 => (intro w hSw; (try dsimp only at hSw); go_simp; (first | done | with_reducible rfl))
  try simp only [Act.put, List.setIfInBounds_toArray, List.set_cons_zero, List.set_cons_succ]
  refine take1 (i := 18) (v := ?v42) (some 56) rfl rfl (by kernel_rfl) (by kernel_rfl) (by kernel_rfl) (fun _ _ _ h => h) (Or.inl ⟨by rfl, ?y42⟩) (by assumption) ?r42
  case y42 => (intro w hSw; (try dsimp only at hSw); go_simp; (first | done | with_reducible rfl))
  try simp only [Act.put, List.setIfInBounds_toArray, List.set_cons_zero, List.set_cons_succ]
  refine wpAnyH_ready (rs := [19]) (by kernel_rfl) (by simp) ?_
  refine AllReadyH.cons rfl (fun K hK => ?_) AllReadyH.nil
  go_simp
  refine hK.out _ _ (⟨(((Below.refl w2.heap.size w3).drew.setCell (p := ⟨g, i * 5 + 3, none⟩) hg2 _).setCell (p := ⟨g, j * 5 + 3, none⟩) hg2 _).cell (p := ⟨b1, _, none⟩) l2 |>.trans p3, (((Below.refl w2.heap.size w3).drew.setCell (p := ⟨g, i * 5 + 3, none⟩) hg2 _).setCell (p := ⟨g, j * 5 + 3, none⟩) hg2 _).cell (p := ⟨b1, _, none⟩) l2 |>.trans q3⟩) (fun hHeld => ?_)
  clear hK K
  try simp only [Act.put, List.setIfInBounds_toArray, List.set_cons_zero, List.set_cons_succ]
  refine wpAnyH_done (by kernel_rfl) ?_ _
  have HO5 := Lib.hid (own_relen' HLL.out (own_below HO.out ((Below.refl _ _).drew)))
  have HB5 := Lib.hid HB4.out.drew
  clear p3 q3 di dj fi fj hHeld
  generalize ((w3.setCell ⟨g, i * 5 + 3, none⟩ (.int .i64 cj)).setCell ⟨g, j * 5 + 3, none⟩ (.int .i64 ci)).drew = w4 at HO5 HB5 ⊢
  go_wp2_with fail
  refine (onlyIf_any _ qq qs w.heap.size t w4 HB5.out.size (own_mono HO5.out HB.out.size) HS.out HT.out).mono ?_
  rintro e w5 ⟨⟨sq, rfl, ho5⟩, hb5⟩
  have HO6 := Lib.hid ho5
  have HB6 : Hid (Below w.heap.size w w5) := Lib.hid (HB5.out.trans (hb5.mono HB5.out.size))
  clear hb5 ho5
  go_wp2_with fail
  go_ret2
  exact ⟨⟨sq, rfl, HO6.out⟩, HB6.out⟩
end Go.Proofs.Ytlhcediejccieaa
