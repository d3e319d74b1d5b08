/- The program's addition: a digit is added, with what is carried. -/
import Derived.Test.YthmbehknacjodaaAds
import Derived.Test.YthmbehknacjodaaAdk
import Derived.ScopeJumps
namespace Go.Proofs.Ythmbehknacjodaa
set_option linter.unusedVariables false
open Go.RowKit

/-- A scope with a jump back: the first way may use what is shown for every pass. -/
theorem wp_scope_first {P : Program} {a : Act} {w : World} {Q : Exit → Act → World → Prop} {c rest : Code} (l : Nat) (J : Act → World → Prop) (μ : Act → World → Nat) (hf : findLabel c l = some (.seq .skip rest))
    (pass : ∀ a w, J a w → rest.wp P (Exit.jump l (fun a' w' => J a' w' ∧ μ a' w' < μ a w) Q) a w)
    (first : (∀ a w, J a w → rest.wp P (Exit.jump l J Q) a w) → c.wp P (Exit.jump l J Q) a w) : (Code.scope c).wp P Q a w := by
  refine wp_scope_jumps l J μ hf (first fun a w hJ => wp_mono (pass a w hJ) fun e a' w' he => ?_) (fun a w hJ => wp_seq (wp_skip (pass a w hJ)))
  cases e with
  | goto l' => exact ⟨he.1, he.2.1⟩
  | _ => exact he
/-- Where a carry stands: the rods, moves and carries that come out in the end. -/
structure ChAt (n : Nat) (RT : List (Int × Int)) (MT : List Mv) (CT : Int) (k : Nat) (d : Int) (rs : List (Int × Int)) (ms : List Mv) (c : Int) : Prop where
  std : stdF rs
  len : rs.length = n
  lt : k < n
  dlo : 1 ≤ d
  dhi : d ≤ 9
  c0 : 0 ≤ c
  safe : numF rs + d * 10 ^ (n - 1 - k) < 10 ^ n
  mT : ms ++ chM (k + 1) d rs = MT
  rT : chR (k + 1) d rs = RT
  cT : c + chC (k + 1) d rs = CT
section
variable {n : Nat} {RT : List (Int × Int)} {MT : List Mv} {CT : Int} {k : Nat} {d : Int} {rs : List (Int × Int)} {ms : List Mv} {c : Int}
theorem ChAt.last (h : ChAt n RT MT CT k d rs ms c) (hx : vAt rs k + d ≤ 9) : rs.set k (digR ((vAt rs k + d) % 10)) = RT ∧ ms ++ turnM k (vAt rs k) ((vAt rs k + d) % 10) = MT ∧ c = CT := by
  have hv := vAt_bd h.std k
  have hd := h.dlo
  have e : (vAt rs k + d) / 10 = 0 := by omega
  have hr := h.rT
  have hm := h.mT
  have hc := h.cT
  rw [chR, if_neg (by omega), e, chR_zero] at hr
  rw [chM, if_neg (by omega), e, chM_zero, List.append_nil] at hm
  rw [chC, if_neg (by omega), if_neg (by omega)] at hc
  exact ⟨hr, hm, by omega⟩
theorem ChAt.carry (h : ChAt n RT MT CT k d rs ms c) (hx : 9 < vAt rs k + d) : ∃ j, k = j + 1 ∧ ChAt n RT MT CT j 1 (rs.set k (digR ((vAt rs k + d) % 10))) (ms ++ turnM k (vAt rs k) ((vAt rs k + d) % 10)) (c + 1) := by
  have hv := vAt_bd h.std k
  have hd := h.dlo
  have hd9 := h.dhi
  have e : (vAt rs k + d) / 10 = 1 := by omega
  cases k with
  | zero => exact (top_num rs d h.std (by have := h.lt; have := h.len; omega) hx (by have := h.safe; rw [h.len]; simpa using this)).elim
  | succ j =>
    have hlt := h.lt
    have hlen := h.len
    have hs := step_num rs j d (by omega)
    have hr := h.rT
    have hm := h.mT
    have hc := h.cT
    have hsf := h.safe
    rw [e, hlen] at hs
    rw [chR, if_neg (by omega), e] at hr
    rw [chM, if_neg (by omega), e, ← List.append_assoc] at hm
    rw [chC, if_neg (by omega), if_pos hx] at hc
    refine ⟨j, rfl, stdF_set h.std _ _ (by omega) (by omega), by rw [List.length_set]; exact hlen, by omega, by omega, by omega, by have := h.c0; omega, by omega, hm, hr, ?_⟩
    rw [chC_set _ _ _ _ _ (Nat.le_refl _)]
    omega
theorem ChAt.short (h : ChAt n RT MT CT k d rs ms c) : ms.length ≤ MT.length := by rw [← h.mT, List.length_append]; omega
end
theorem AdAt.setK {B : Nat} {w : World} {A : Nat} {up lo : Int} {sv : Value} {mg mc : Nat} {rs : List (Int × Int)} {ms : List Mv} {c k0 k1 k2 k3 : Int} (h : AdAt B w A up lo sv mg mc rs ms c k0 k1 k2 k3) (j : Nat) (hj : j < 4) (x : Int) :
    ∃ j0 j1 j2 j3, [j0, j1, j2, j3] = [k0, k1, k2, k3].set j x ∧ AdAt B (w.setCell ⟨A, 5 + j, none⟩ (.int .i64 x)) A up lo sv mg mc rs ms c j0 j1 j2 j3 := by
  rcases (by omega : j = 0 ∨ j = 1 ∨ j = 2 ∨ j = 3) with rfl | rfl | rfl | rfl
  · exact ⟨x, k1, k2, k3, rfl, h.setK0 x⟩
  · exact ⟨k0, x, k2, k3, rfl, h.setK1 x⟩
  · exact ⟨k0, k1, x, k3, rfl, h.setK2 x⟩
  · exact ⟨k0, k1, k2, x, rfl, h.setK3 x⟩
theorem AdAt.kAt {B : Nat} {w : World} {A : Nat} {up lo : Int} {sv : Value} {mg mc : Nat} {rs : List (Int × Int)} {ms : List Mv} {c k0 k1 k2 k3 : Int} (h : AdAt B w A up lo sv mg mc rs ms c k0 k1 k2 k3) (j : Nat) (hj : j < 4) :
    w.cell? ⟨A, 5 + j, none⟩ = some (.int .i64 ([k0, k1, k2, k3].getD j 0)) ∧ w.frozen? ⟨A, 5 + j, none⟩ = false := by
  obtain ⟨c0, c1, c2, c3, c4, c5, c6, c7, c8, f0, f1, f2, f3, f4, f5, f6, f7, f8⟩ := cell9 h.box
  rcases (by omega : j = 0 ∨ j = 1 ∨ j = 2 ∨ j = 3) with rfl | rfl | rfl | rfl
  · exact ⟨c5, f5⟩
  · exact ⟨c6, f6⟩
  · exact ⟨c7, f7⟩
  · exact ⟨c8, f8⟩
theorem AdAt.rodAt {B : Nat} {w : World} {A : Nat} {up lo : Int} {sv : Value} {mg mc : Nat} {rs : List (Int × Int)} {ms : List Mv} {c k0 k1 k2 k3 : Int} (h : AdAt B w A up lo sv mg mc rs ms c k0 k1 k2 k3) {q : Nat} (hq : q < rs.length) :
    ∃ b cp, sv = .slice (some ⟨b, 0, none⟩) rs.length cp ∧ b < w.heap.size ∧ w.cell? ⟨b, q * 2, none⟩ = some (.int .i64 rs[q].1) ∧ w.cell? ⟨b, q * 2 + 1, none⟩ = some (.int .i64 rs[q].2) := by
  obtain ⟨b, cp, rfl⟩ := own_block h.rods (by omega)
  have hf := flat_at rs q hq
  exact ⟨b, cp, rfl, (h.rods.lt b rfl).2, (h.rods.cellAt (q * 2) (by omega)).trans hf.1, (h.rods.cellAt (q * 2 + 1) (by omega)).trans hf.2⟩

set_option maxRecDepth 100000 in
set_option maxHeartbeats 3200000 in
theorem adDigit_any (B A mg mc : Nat) (up lo : Int) (sv : Value) (rs : List (Int × Int)) (ms : List Mv) (c k0 k1 k2 k3 : Int) (q : Nat) (d : Int) (w : World) (h : AdAt B w A up lo sv mg mc rs ms c k0 k1 k2 k3) (hg : goodF up lo rs) (hs : stdF rs) (hq : q < rs.length) (hd0 : 1 ≤ d) (hd1 : d ≤ 9) (hn : ms.length ≤ 150)
    (hc : 0 ≤ c ∧ c ≤ 100) (hk : ∀ k ∈ [k0, k1, k2, k3], 0 ≤ k ∧ k ≤ 100) (hT : numF rs + d * 10 ^ (rs.length - 1 - q) < 10 ^ rs.length) :
    Calls Try.prog 120 #[.pointer (some ⟨A, 0, none⟩), .int .i64 q, .int .i64 d] w fun e w' => e = .returned (.tuple #[]) ∧ (∃ sv' mg' mc' j0 j1 j2 j3, AdAt B w' A up lo sv' mg' mc' (chR (q + 1) d rs) (ms ++ chM (q + 1) d rs) (c + (chC (q + 1) d rs : Nat)) j0 j1 j2 j3 ∧ [j0, j1, j2, j3] = bump [k0, k1, k2, k3] (kindA (vAt rs q) d)) ∧ Below B w w' ∧ KeepT w w' A := by
  obtain ⟨j, hj⟩ : ∃ j, j = kindA (vAt rs q) d := ⟨_, rfl⟩
  have hj4 : j < 4 := by rw [hj]; exact kindA_lt _ _
  have hdim : (1 ≤ up ∧ up ≤ 2) ∧ (4 ≤ lo ∧ lo ≤ 5) ∧ (1 ≤ rs.length ∧ rs.length ≤ 8) := hg.2
  have hch : ChAt rs.length (chR (q + 1) d rs) (ms ++ chM (q + 1) d rs) (c + (chC (q + 1) d rs : Nat)) q d rs ms c := ⟨hs, rfl, hq, hd0, hd1, hc.1, hT, rfl, rfl, rfl⟩
  have hcT : c + (chC (q + 1) d rs : Nat) ≤ 200 := by have := chC_le (q + 1) d rs; omega
  have hmT : (ms ++ chM (q + 1) d rs).length ≤ 180 := by rw [List.length_append]; have := chM_len (q + 1) d rs; omega
  generalize chR (q + 1) d rs = RT at hch ⊢
  generalize ms ++ chM (q + 1) d rs = MT at hch hmT ⊢
  generalize c + (chC (q + 1) d rs : Nat) = CT at hch hcT ⊢
  rw [← hj]
  obtain ⟨kj, hkj⟩ : ∃ kj, kj = [k0, k1, k2, k3].getD j 0 := ⟨_, rfl⟩
  have hkb : 0 ≤ kj ∧ kj ≤ 100 := by
    rw [hkj, List.getD_eq_getElem?_getD, List.getElem?_eq_getElem (by simpa using hj4)]
    exact hk _ (List.getElem_mem _)
  have hw : IntKind.i64.wrap (kj + 1) = kj + 1 := by rw [IntKind.wrap_i64]; omega
  have hrods := h.rodAt hq
  obtain ⟨b, cp, rfl, hbl, hx, hy⟩ := hrods
  have hA := h
  obtain ⟨j0, j1, j2, j3, hjs, -⟩ := hA.setK j hj4 (kj + 1)
  have HJS : Hid ([j0, j1, j2, j3] = bump [k0, k1, k2, k3] j) := Lib.hid (by rw [hjs, hkj]; rfl)
  have HJQ : Hid ([j0, j1, j2, j3] = [k0, k1, k2, k3].set j (kj + 1)) := Lib.hid hjs
  have HA := Lib.hid h
  have HCH := Lib.hid hch
  have HD := Lib.hid hdim
  have HC0 := Lib.hid hc.1
  have HV : Hid (5 * rs[q].1 + rs[q].2 = vAt rs q) := Lib.hid (by rw [vAt_in hq]; rfl)
  have HVB : Hid (0 ≤ vAt rs q ∧ vAt rs q ≤ 9) := Lib.hid (vAt_bd hs q)
  have HR : Hid ((0 ≤ rs[q].1 ∧ rs[q].1 ≤ 1) ∧ (0 ≤ rs[q].2 ∧ rs[q].2 ≤ 4)) := Lib.hid (hs q hq)
  have HJE := Lib.hid hj
  have HKJ : Hid (w.cell? ⟨A, 5 + j, none⟩ = some (.int .i64 kj)) := Lib.hid (by rw [hkj]; exact (h.kAt j hj4).1)
  have HKJ3 : ∀ (w' : World) (_ : Hid (AdAt B w' A up lo (.slice (some ⟨b, 0, none⟩) rs.length cp) mg mc rs ms c k0 k1 k2 k3)), w'.cell? ⟨A, 5 + j, none⟩ = some (.int .i64 kj) := fun w' h' => by rw [hkj]; exact (h'.out.kAt j hj4).1
  have HBB : Hid (B ≤ w.heap.size) := Lib.hid (by have := h.ord; have := h.lt; omega)
  have hAl := h.lt
  clear h hg hs hch hdim hc hk hkj hjs hA hj hT hx hy
  go_enter Try.func120, Try.ntmps120
  go_wp2_with fail
  refine wp_scope_first 0 (fun a' w' => ∃ (k : Nat) (dd : Int) (rs' : List (Int × Int)) (ms' : List Mv) (sv' : Value) (mg' mc' : Nat) (c' : Int) (u3 u4 u5 u6 u7 u8 u9 u10 u11 u12 u13 u14 u15 u16 u17 u18 u19 u20 u21 u22 u23 u24 u25 u26 u27 u28 u29 u30 u31 u32 u33 u34 u35 u36 u37 u38 u39 u40 u41 u42 u43 u44 u45 u46 u47 u48 u49 u50 u51 u52 u53 u54 u55 u56 u57 : Value), a' = { tmps := #[.pointer (some ⟨A, 0, none⟩), .int .i64 k, .int .i64 dd, u3, u4, u5, u6, u7, u8, u9, u10, u11, u12, u13, u14, u15, u16, u17, u18, u19, u20, u21, u22, u23, u24, u25, u26, u27, u28, u29, u30, u31, u32, u33, u34, u35, u36, u37, u38, u39, u40, u41, u42, u43, u44, u45, u46, u47, u48, u49, u50, u51, u52, u53, u54, u55, u56, u57], defers := [] } ∧ AdAt B w' A up lo sv' mg' mc' rs' ms' c' j0 j1 j2 j3 ∧ Below B w w' ∧ KeepT w w' A ∧ ChAt rs.length RT MT CT k dd rs' ms' c') (fun a' _ => (intOf (a'.tmps.getD 1 undef)).toNat) rfl ?pass ?first
  case first =>
    intro hp
    have HP := Lib.hid hp
    clear hp
    have hx := (HA.out.rods.cellAt (q * 2) (by omega)).trans (flat_at rs q hq).1
    have hy := (HA.out.rods.cellAt (q * 2 + 1) (by omega)).trans (flat_at rs q hq).2
    obtain ⟨c0, c1, c2, c3, c4, c5, c6, c7, c8, f0, f1, f2, f3, f4, f5, f6, f7, f8⟩ := cell9 HA.out.box
    have z1 : (0 : Int) ≤ (q : Int) := by omega
    have z2 : (q : Int) < (rs.length : Int) := by omega
    go_wp2_with fail
    refine wp_region_held_drew (S := (fun u => u.cell? ⟨A, 2, none⟩ = some (.slice (some ⟨b, 0, none⟩) rs.length cp) ∧ u.cell? ⟨b, q * 2, none⟩ = some (.int .i64 rs[q].1) ∧ u.cell? ⟨b, q * 2 + 1, none⟩ = some (.int .i64 rs[q].2))) (by kernel_rfl) (⟨c2, hx, hy⟩) (fun hHeld => ?_)
    have hb : Below w.heap.size w w.drew := (Below.refl _ _).drew
    generalize w.drew = w1 at hb hHeld ⊢
    refine take1 (i := 0) (v := ?v1) (some 7) rfl rfl (by kernel_rfl) (by kernel_rfl) (by kernel_rfl) (fun _ _ _ h => h) (Or.inl ⟨by rfl, ?y1⟩) (by assumption) ?r1
    case y1 => (intro w hSw; (try dsimp only at hSw); go_simp; (first | done | with_reducible rfl))
    try simp only [Act.put, List.setIfInBounds_toArray, List.set_cons_zero, List.set_cons_succ]
    refine take1 (i := 1) (v := ?v2) (some 8) rfl rfl (by kernel_rfl) (by kernel_rfl) (by kernel_rfl) (fun _ _ _ h => h) (Or.inl ⟨by rfl, ?y2⟩) (by assumption) ?r2
    case y2 => (intro w hSw; (try dsimp only at hSw); go_simp; (first | done | with_reducible rfl))
    try simp only [Act.put, List.setIfInBounds_toArray, List.set_cons_zero, List.set_cons_succ]
    refine take1 (i := 2) (v := ?v3) (some 9) rfl rfl (by kernel_rfl) (by kernel_rfl) (by kernel_rfl) (fun _ _ _ h => h) (Or.inl ⟨by rfl, ?y3⟩) (by assumption) ?r3
    case y3 => (intro w hSw; (try dsimp only at hSw); go_simp; (first | done | with_reducible rfl))
    try simp only [Act.put, List.setIfInBounds_toArray, List.set_cons_zero, List.set_cons_succ]
    refine take1 (i := 3) (v := ?v4) (some 10) rfl rfl (by kernel_rfl) (by kernel_rfl) (by kernel_rfl) (fun _ _ _ h => h) (Or.inl ⟨by rfl, ?y4⟩) (by assumption) ?r4
    case y4 => (intro w hSw; (try dsimp only at hSw); go_simp; (first | done | with_reducible rfl))
    try simp only [Act.put, List.setIfInBounds_toArray, List.set_cons_zero, List.set_cons_succ]
    refine take1 (i := 4) (v := ?v5) (some 11) rfl rfl (by kernel_rfl) (by kernel_rfl) (by kernel_rfl) (fun _ _ _ h => h) (Or.inl ⟨by rfl, ?y5⟩) (by assumption) ?r5
    case y5 => (intro w hSw; (try dsimp only at hSw); go_simp; (first | done | with_reducible rfl))
    try simp only [Act.put, List.setIfInBounds_toArray, List.set_cons_zero, List.set_cons_succ]
    refine take1 (i := 5) (v := ?v6) (some 12) rfl rfl (by kernel_rfl) (by kernel_rfl) (by kernel_rfl) (fun _ _ _ h => h) (Or.inl ⟨by rfl, ?y6⟩) (by assumption) ?r6
    case y6 => (intro w hSw; (try dsimp only at hSw); go_simp; (first | done | with_reducible rfl))
    try simp only [Act.put, List.setIfInBounds_toArray, List.set_cons_zero, List.set_cons_succ]
    refine take1 (i := 6) (v := ?v7) (some 13) rfl rfl (by kernel_rfl) (by kernel_rfl) (by kernel_rfl) (fun _ _ _ h => h) (Or.inl ⟨by rfl, ?y7⟩) (by assumption) ?r7
    case y7 => (intro w hSw; (try dsimp only at hSw); go_simp; (first | done | with_reducible rfl))
    try simp only [Act.put, List.setIfInBounds_toArray, List.set_cons_zero, List.set_cons_succ]
    refine take1 (i := 7) (v := ?v8) (some 14) rfl rfl (by kernel_rfl) (by kernel_rfl) (by kernel_rfl) (fun _ _ _ h => h) (Or.inl ⟨by rfl, ?y8⟩) (by assumption) ?r8
    case y8 => (intro w hSw; (try dsimp only at hSw); go_simp; (first | done | with_reducible rfl))
    try simp only [Act.put, List.setIfInBounds_toArray, List.set_cons_zero, List.set_cons_succ]
    refine take1 (i := 8) (v := ?v9) (some 15) rfl rfl (by kernel_rfl) (by kernel_rfl) (by kernel_rfl) (fun _ _ _ h => h) (Or.inl ⟨by rfl, ?y9⟩) (by assumption) ?r9
    case y9 => (intro w hSw; (try dsimp only at hSw); go_simp; (first | done | with_reducible rfl))
    try simp only [Act.put, List.setIfInBounds_toArray, List.set_cons_zero, List.set_cons_succ]
    refine take1 (i := 9) (v := ?v10) (some 16) rfl rfl (by kernel_rfl) (by kernel_rfl) (by kernel_rfl) (fun _ _ _ h => h) (Or.inl ⟨by rfl, ?y10⟩) (by assumption) ?r10
    case y10 => (intro w hSw; (try dsimp only at hSw); go_simp; (first | done | with_reducible rfl))
    try simp only [Act.put, List.setIfInBounds_toArray, List.set_cons_zero, List.set_cons_succ]
    refine take1 (i := 11) (v := ?v11) (some 18) rfl rfl (by kernel_rfl) (by kernel_rfl) (by kernel_rfl) (fun _ _ _ h => h) (Or.inl ⟨by rfl, ?y11⟩) (by assumption) ?r11
    case y11 => (intro w hSw; (try dsimp only at hSw); go_simp; (first | done | with_reducible rfl))
    try simp only [Act.put, List.setIfInBounds_toArray, List.set_cons_zero, List.set_cons_succ]
    refine take1 (i := 13) (v := ?v12) (some 20) rfl rfl (by kernel_rfl) (by kernel_rfl) (by kernel_rfl) (fun _ _ _ h => h) (Or.inl ⟨by rfl, ?y12⟩) (by assumption) ?r12
    case y12 => (intro w hSw; (try dsimp only at hSw); go_simp; (first | done | with_reducible rfl))
    try simp only [Act.put, List.setIfInBounds_toArray, List.set_cons_zero, List.set_cons_succ]
    refine take1 (i := 14) (v := ?v13) (some 21) rfl rfl (by kernel_rfl) (by kernel_rfl) (by kernel_rfl) (fun _ _ _ h => h) (Or.inl ⟨by rfl, ?y13⟩) (by assumption) ?r13
    case y13 => (intro w hSw; (try dsimp only at hSw); go_simp; (first | done | with_reducible rfl))
    try simp only [Act.put, List.setIfInBounds_toArray, List.set_cons_zero, List.set_cons_succ]
    refine take1 (i := 18) (v := ?v14) (some 25) rfl rfl (by kernel_rfl) (by kernel_rfl) (by kernel_rfl) (fun _ _ _ h => h) (Or.inl ⟨by rfl, ?y14⟩) (by assumption) ?r14
    case y14 => (intro w hSw; (try dsimp only at hSw); go_simp; (first | done | with_reducible rfl))
    try simp only [Act.put, List.setIfInBounds_toArray, List.set_cons_zero, List.set_cons_succ]
    refine take1 (i := 19) (v := ?v15) (some 26) rfl rfl (by kernel_rfl) (by kernel_rfl) (by kernel_rfl) (fun _ _ _ h => h) (Or.inl ⟨by rfl, ?y15⟩) (by assumption) ?r15
    case y15 => (intro w hSw; (try dsimp only at hSw); go_simp; (first | done | with_reducible rfl))
    try simp only [Act.put, List.setIfInBounds_toArray, List.set_cons_zero, List.set_cons_succ]
    have HA1 := Lib.hid (HA.out.next hb)
    have HB1 : Hid (Below B w w1) := Lib.hid (hb.mono HBB.out)
    have HKT1 : Hid (KeepT w w1 A) := Lib.hid (KeepT.of_below hb)
    have HS1 : Hid (B ≤ w1.heap.size) := Lib.hid (by have := hb.size; have := HBB.out; omega)
    clear hb
    refine wpAnyH_ready (rs := [10]) (by kernel_rfl) (by simp) ?_
    refine AllReadyH.cons rfl (fun K hK => ?_) AllReadyH.nil
    go_simp
    go_at_call 119
    refine (valueOf_sgn rs[q].1 rs[q].2 _ ⟨by have := HR.out; omega, by have := HR.out; omega⟩).mono ?_
    rintro e w2 ⟨rfl, hb⟩
    rw [HV.out]
    have HA2 := Lib.hid (HA1.out.next hb)
    have HB2 : Hid (Below B w w2) := Lib.hid (HB1.out.trans (hb.mono HS1.out))
    have HKT2 : Hid (KeepT w w2 A) := Lib.hid (HKT1.out.trans (KeepT.of_below hb))
    have HS2 : Hid (B ≤ w2.heap.size) := Lib.hid (by have := hb.size; have := HS1.out; omega)
    clear hb hx hy c0 c1 c2 c3 c4 c5 c6 c7 c8 f0 f1 f2 f3 f4 f5 f6 f7 f8
    have hx := (HA2.out.rods.cellAt (q * 2) (by omega)).trans (flat_at rs q hq).1
    have hy := (HA2.out.rods.cellAt (q * 2 + 1) (by omega)).trans (flat_at rs q hq).2
    obtain ⟨c0, c1, c2, c3, c4, c5, c6, c7, c8, f0, f1, f2, f3, f4, f5, f6, f7, f8⟩ := cell9 HA2.out.box
    try go_simp
    refine hK.out _ _ (⟨c2, hx, hy⟩) (fun hHeld => ?_)
    clear hK K
    try simp only [Act.put, List.setIfInBounds_toArray, List.set_cons_zero, List.set_cons_succ]
    refine wpAnyH_ready (rs := [12]) (by kernel_rfl) (by simp) ?_
    refine AllReadyH.cons rfl (fun K hK => ?_) AllReadyH.nil
    go_simp
    go_at_call 136
    refine (kindOf_any (vAt rs q) d _ HVB.out ⟨hd0, hd1⟩).mono ?_
    rintro e w3 ⟨rfl, hb⟩
    rw [← HJE.out]
    have HA3 := Lib.hid (HA2.out.next hb)
    have HB3 : Hid (Below B w w3) := Lib.hid (HB2.out.trans (hb.mono HS2.out))
    have HKT3 : Hid (KeepT w w3 A) := Lib.hid (HKT2.out.trans (KeepT.of_below hb))
    clear hb hx hy c0 c1 c2 c3 c4 c5 c6 c7 c8 f0 f1 f2 f3 f4 f5 f6 f7 f8
    have hx := (HA3.out.rods.cellAt (q * 2) (by omega)).trans (flat_at rs q hq).1
    have hy := (HA3.out.rods.cellAt (q * 2 + 1) (by omega)).trans (flat_at rs q hq).2
    have hkc := HKJ3 w3 HA3
    have hkf := (HA3.out.kAt j hj4).2
    obtain ⟨c0, c1, c2, c3, c4, c5, c6, c7, c8, f0, f1, f2, f3, f4, f5, f6, f7, f8⟩ := cell9 HA3.out.box
    have y1 : (0 : Int) ≤ (j : Int) := by omega
    have y2 : (j : Int) < 4 := by omega
    try go_simp
    refine hK.out _ _ (⟨c2, hx, hy⟩) (fun hHeld => ?_)
    clear hK K
    try simp only [Act.put, List.setIfInBounds_toArray, List.set_cons_zero, List.set_cons_succ]
    refine take1 (i := 15) (v := ?v16) (some 22) rfl rfl (by kernel_rfl) (by kernel_rfl) (by kernel_rfl) (fun _ _ _ h => h) (Or.inl ⟨by rfl, ?y16⟩) (by assumption) ?r16
    case y16 => (intro w hSw; (try dsimp only at hSw); go_simp; (first | done | with_reducible rfl))
    try simp only [Act.put, List.setIfInBounds_toArray, List.set_cons_zero, List.set_cons_succ]
    refine wpAnyH_ready (rs := [16]) (by kernel_rfl) (by simp) ?_
    refine AllReadyH.cons rfl (fun K hK => ?_) AllReadyH.nil
    go_simp
    refine hK.out _ _ (⟨c2, hx, hy⟩) (fun hHeld => ?_)
    clear hK K
    try simp only [Act.put, List.setIfInBounds_toArray, List.set_cons_zero, List.set_cons_succ]
    refine take1 (i := 17) (v := ?v17) (some 24) rfl rfl (by kernel_rfl) (by kernel_rfl) (by kernel_rfl) (fun _ _ _ h => h) (Or.inl ⟨by rfl, ?y17⟩) (by assumption) ?r17
    case y17 => (intro w hSw; (try dsimp only at hSw); go_simp; (first | done | with_reducible rfl))
    try simp only [Act.put, List.setIfInBounds_toArray, List.set_cons_zero, List.set_cons_succ]
    refine take1 (i := 20) (v := ?v18) (some 27) rfl rfl (by kernel_rfl) (by kernel_rfl) (by kernel_rfl) (fun _ _ _ h => h) (Or.inl ⟨by rfl, ?y18⟩) (by assumption) ?r18
    case y18 => (intro w hSw; (try dsimp only at hSw); go_simp; (first | done | with_reducible rfl))
    try simp only [Act.put, List.setIfInBounds_toArray, List.set_cons_zero, List.set_cons_succ]
    refine wpAnyH_ready (rs := [21]) (by kernel_rfl) (by simp) ?_
    refine AllReadyH.cons rfl (fun K hK => ?_) AllReadyH.nil
    go_simp
    obtain ⟨j0', j1', j2', j3', hjs', ha4⟩ := HA3.out.setK j hj4 (kj + 1)
    rw [← HJQ.out] at hjs'
    obtain ⟨rfl, rfl, rfl, rfl⟩ : j0' = j0 ∧ j1' = j1 ∧ j2' = j2 ∧ j3' = j3 := by simpa using hjs'
    have hb4 : Below B w (w3.setCell ⟨A, 5 + j, none⟩ (.int .i64 (kj + 1))) := HB3.out.setCell (p := ⟨A, 5 + j, none⟩) HA3.out.ord _
    have hk4 : KeepT w (w3.setCell ⟨A, 5 + j, none⟩ (.int .i64 (kj + 1))) A := HKT3.out.trans (KeepT.setA _ _ _ _)
    generalize (w3.setCell ⟨A, 5 + j, none⟩ (.int .i64 (kj + 1))) = w4 at ha4 hb4 hk4 ⊢
    have HKT4 := Lib.hid hk4
    clear hk4
    have HA4 := Lib.hid ha4
    have HB4 := Lib.hid hb4
    clear hx hy c0 c1 c2 c3 c4 c5 c6 c7 c8 f0 f1 f2 f3 f4 f5 f6 f7 f8 ha4 hb4 hkc hkf hjs'
    have hx := (HA4.out.rods.cellAt (q * 2) (by omega)).trans (flat_at rs q hq).1
    have hy := (HA4.out.rods.cellAt (q * 2 + 1) (by omega)).trans (flat_at rs q hq).2
    obtain ⟨c0, c1, c2, c3, c4, c5, c6, c7, c8, f0, f1, f2, f3, f4, f5, f6, f7, f8⟩ := cell9 HA4.out.box
    refine hK.out _ _ (⟨c2, hx, hy⟩) (fun hHeld => ?_)
    clear hK K
    try simp only [Act.put]
    refine wpAnyH_done (by kernel_rfl) ?_ _
    simp only [Exit.then]
    apply_assumption
    refine wp_seq ?_
    go_step3
    simp only [Exit.then]
    refine HP.out _ _ ⟨q, d, rs, ms, _, mg, mc, c, _, _, _, _, _, _, _, _, _, _, _, _, _, _, _, _, _, _, _, _, _, _, _, _, _, _, _, _, _, _, _, _, _, _, _, _, _, _, _, _, _, _, _, _, _, _, _, _, _, _, _, _, _, _, _, rfl, HA4.out, HB4.out, HKT4.out, HCH.out⟩
  case pass =>
    rintro a' w' ⟨k, dd, rs', ms', sv', mg', mc', c', u3, u4, u5, u6, u7, u8, u9, u10, u11, u12, u13, u14, u15, u16, u17, u18, u19, u20, u21, u22, u23, u24, u25, u26, u27, u28, u29, u30, u31, u32, u33, u34, u35, u36, u37, u38, u39, u40, u41, u42, u43, u44, u45, u46, u47, u48, u49, u50, u51, u52, u53, u54, u55, u56, u57, rfl, ha, hb, hkt, hch⟩
    have HKT0 := Lib.hid hkt
    clear hkt
    have HA0 := Lib.hid ha
    have HB0 := Lib.hid hb
    have HX := Lib.hid hch
    have hkl := hch.lt
    have hln := hch.len
    have hkr : k < rs'.length := by omega
    obtain ⟨b', cp', rfl, hbl', hx, hy⟩ := ha.rodAt hkr
    have HV0 : Hid (5 * rs'[k].1 + rs'[k].2 = vAt rs' k) := Lib.hid (by rw [vAt_in hkr]; rfl)
    have hvb := vAt_bd hch.std k
    have hr0 := hch.std k hkr
    have HR0 := Lib.hid hr0
    have z1 : (0 : Int) ≤ (k : Int) := by omega
    have z2 : (k : Int) < (rs'.length : Int) := by omega
    have hdl := hch.dlo
    have hdh := hch.dhi
    have hms := hch.short
    obtain ⟨sum, hsum⟩ : ∃ sum, sum = vAt rs' k + dd := ⟨_, rfl⟩
    obtain ⟨c0, c1, c2, c3, c4, c5, c6, c7, c8, f0, f1, f2, f3, f4, f5, f6, f7, f8⟩ := cell9 HA0.out.box
    clear ha hb hch hr0
    go_wp2_with fail
    refine (valueOf_sgn rs'[k].1 rs'[k].2 _ ⟨by have := HR0.out; omega, by have := HR0.out; omega⟩).mono ?_
    rintro e w2 ⟨rfl, hb⟩
    rw [HV0.out]
    have HA1 := Lib.hid (HA0.out.next hb)
    have HS0 : Hid (B ≤ w'.heap.size) := Lib.hid (by have := HA0.out.ord; have := HA0.out.lt; omega)
    have HB1 : Hid (Below B w w2) := Lib.hid (HB0.out.trans (hb.mono HS0.out))
    have HKT1 : Hid (KeepT w w2 A) := Lib.hid (HKT0.out.trans (KeepT.of_below hb))
    clear hb hx hy c0 c1 c2 c3 c4 c5 c6 c7 c8 f0 f1 f2 f3 f4 f5 f6 f7 f8
    go_wp2_with fail
    try rw [← hsum]
    have hs2 : 0 ≤ sum % 10 ∧ sum % 10 ≤ 9 := by omega
    have HGx := Lib.hid (stdF_good HX.out.std HD.out.1 HD.out.2.1 (by rw [HX.out.len]; exact HD.out.2.2))
    refine (adSet_any B A mg' mc' up lo _ rs' ms' c' j0 j1 j2 j3 k (sum % 10) _ HA1.out HGx.out HX.out.std hkr hs2.1 hs2.2 (by omega)).mono ?_
    rintro e w3 ⟨rfl, ⟨sv4, mg4, mc4, ha⟩, hb, hkt⟩
    have HKT3 : Hid (KeepT w w3 A) := Lib.hid (HKT1.out.trans hkt)
    clear hkt
    have HA3 := Lib.hid ha
    have HB3 : Hid (Below B w w3) := Lib.hid (HB1.out.trans hb)
    clear ha hb
    by_cases h9 : 9 < sum
    · obtain ⟨i, rfl, hch⟩ := HX.out.carry (by rw [← hsum]; exact h9)
      rw [← hsum] at hch
      have HX3 := Lib.hid hch
      have hcc : c' + 1 ≤ CT := by have := hch.cT; have := chC_le (i + 1) 1 (rs'.set (i + 1) (digR (sum % 10))); omega
      have hc0 : 0 ≤ c' := HX.out.c0
      have hwc : IntKind.i64.wrap (c' + 1) = c' + 1 := by rw [IntKind.wrap_i64]; omega
      have hwi : wrap64 (i : Int) = (i : Int) := by have := HD.out.2.2; unfold wrap64; omega
      clear hch
      obtain ⟨c0, c1, c2, c3, c4, c5, c6, c7, c8, f0, f1, f2, f3, f4, f5, f6, f7, f8⟩ := cell9 HA3.out.box
      go_wp2_with fail
      go_step3
      rw [hwi]
      refine ⟨rfl, ⟨i, 1, _, _, _, _, _, _, _, _, _, _, _, _, _, _, _, _, _, _, _, _, _, _, _, _, _, _, _, _, _, _, _, _, _, _, _, _, _, _, _, _, _, _, _, _, _, _, _, _, _, _, _, _, _, _, _, _, _, _, _, _, _, rfl, HA3.out.setC _, HB3.out.setCell (p := ⟨A, 4, none⟩) HA3.out.ord _, HKT3.out.trans (KeepT.setA _ _ _ _), HX3.out⟩, by simp [intOf] <;> omega⟩
    · obtain ⟨e1, e2, e3⟩ := HX.out.last (by rw [← hsum]; omega)
      rw [← hsum] at e1 e2
      have HA4 : Hid (AdAt B w3 A up lo sv4 mg4 mc4 RT MT CT j0 j1 j2 j3) := Lib.hid (by rw [← e1, ← e2, ← e3]; exact HA3.out)
      clear e1 e2 e3
      go_wp2_with fail
      simp only [Exit.jump]
      go_end0
      exact ⟨rfl, ⟨_, _, _, _, _, _, _, HA4.out, HJS.out⟩, HB3.out, HKT3.out⟩
end Go.Proofs.Ythmbehknacjodaa
