/- The program's carries and borrows from a place. -/
import Derived.Test.YtbdddpchlmddbaaDoorJbrd
import Derived.Test.YtbdddpchlmddbaaDoorJplc
namespace Go.Proofs.YtbdddpchlmddbaaDoor
set_option linter.unusedVariables false
open Go.RowKit

theorem own_sub {w : World} {lo g n cap : Nat} {ps : List Int} (h : w.ownsRow lo 3 1 (.slice (some ⟨g, 0, none⟩) n cap) n (flatC inC ps)) (hn : ps.length = n) (p : Nat) (x y : Int) (hp : p + 1 < n) (hx : ps[p] = x) (hy : ps[p + 1] = y) (c : Nat) (hc : 2 ≤ c) : RowsR 1 inC w (.slice (some ⟨g, p, none⟩) 2 c) [x, y] := by
  refine ⟨some ⟨g, p, none⟩, c, rfl, ⟨by show 2 ≤ maxLen; unfold maxLen; omega, hc⟩, fun _ => ⟨g, p, rfl, (h.lt g rfl).2, fun i hi j hj => ?_⟩⟩
  have hj0 : j = 0 := by omega
  subst hj0
  have hi2 : i = 0 ∨ i = 1 := by simp at hi; omega
  rcases hi2 with rfl | rfl
  · have := h.cellAt p (by omega)
    rw [flat_iat ps p (by omega), hx] at this
    simpa [inC] using this
  · have := h.cellAt (p + 1) (by omega)
    rw [flat_iat ps (p + 1) (by omega), hy] at this
    simpa [inC] using this
theorem ctr_two (x y : Int) : ctr [x, y] ↔ (0 ≤ x ∧ x ≤ 30) ∧ (0 ≤ y ∧ y ≤ 30) := by
  constructor
  · intro h; exact ⟨h 0 (by simp), h 1 (by simp)⟩
  · rintro ⟨h1, h2⟩ k hk
    have : k = 0 ∨ k = 1 := by simp at hk; omega
    rcases this with rfl | rfl
    · exact h1
    · exact h2
theorem cyP_two (p : Nat) (t : Int) (ps : List Int) (hp : p + 1 < ps.length) (h : ctr ps) (x y : Int) (hx : x = ps[p] - t * mkP p) (hy : y = ps[p + 1] + t) : ctr (cyP p t ps) ↔ ctr [x, y] := by
  rw [cyP_ctr p t ps hp h, ctr_two, getDi_at _ p (by rw [cyP_len]; omega), getDi_at _ (p + 1) (by rw [cyP_len]; omega), cyP_at, cyP_at, if_neg (by omega), if_pos rfl, if_pos rfl, getDi_at ps p (by omega), getDi_at ps (p + 1) hp, ← hx, ← hy]
theorem cyP_set (p : Nat) (t : Int) (ps : List Int) (hp : p + 1 < ps.length) (x y : Int) (hx : x = ps[p] - t * mkP p) (hy : y = ps[p + 1] + t) : (ps.set p x).set (p + 1) y = cyP p t ps := by
  unfold cyP
  rw [getDi_at ps p (by omega), getDi_at ps (p + 1) hp, hx, hy]

set_option maxRecDepth 100000 in
set_option maxHeartbeats 3200000 in
theorem carry_in (g cap lo hi : Nat) (ps : List Int) (p : Nat) (t : Int) (w : World) (ho : Ow lo hi w 3 1 (.slice (some ⟨g, 0, none⟩) ps.length cap) ps.length (flatC inC ps)) (hlo : lo ≤ w.heap.size) (hl : ps.length ≤ 12) (hc : ctr ps) (ht : -30 ≤ t ∧ t ≤ 30) (hp : p + 1 < ps.length) (r : Bool) (hr : Hid (r = true ↔ ctr (cyP p t ps))) :
    Calls Tryd.prog 41 #[.slice (some ⟨g, 0, none⟩) ps.length cap, .int .i64 p, .int .i64 t] w fun e w' => e = .returned (.bool r) ∧ Ow lo hi w' 3 1 (.slice (some ⟨g, 0, none⟩) ps.length cap) ps.length (flatC inC (cyP p t ps)) ∧ Btw lo hi w w' := by
  have hcap : ps.length ≤ cap := by
    rcases ho.1.2 with ⟨h, _⟩ | ⟨g', c', cur, h, _, _, hn, _⟩
    · cases h
    · injection h with h1 h2 h3; omega
  have hglo : lo ≤ g ∧ g < hi ∧ g < w.heap.size := ⟨(ho.1.lt g rfl).1, ho.2 g rfl, (ho.1.lt g rfl).2⟩
  obtain ⟨hg1, hg2, hg3⟩ := hglo
  obtain ⟨x, hx⟩ : ∃ x, ps[p] = x := ⟨_, rfl⟩
  obtain ⟨y, hy⟩ : ∃ y, ps[p + 1] = y := ⟨_, rfl⟩
  have hxb := hc p (by omega)
  have hyb := hc (p + 1) hp
  rw [hx] at hxb
  rw [hy] at hyb
  obtain ⟨x0, x1⟩ := hxb
  obtain ⟨y0, y1⟩ := hyb
  obtain ⟨t0, t1⟩ := ht
  obtain ⟨m, hm⟩ : ∃ m, m = mkP p := ⟨_, rfl⟩
  have HM := Lib.hid hm
  have hm25 : m = 5 ∨ m = 2 := by rw [hm]; exact mkP_or p
  obtain ⟨d, hd⟩ : ∃ d, t * m = d := ⟨_, rfl⟩
  have hdb : -150 ≤ d ∧ d ≤ 150 := by rcases hm25 with e | e <;> (subst e; omega)
  obtain ⟨x', hx'⟩ : ∃ x', x - d = x' := ⟨_, rfl⟩
  obtain ⟨y', hy'⟩ : ∃ y', y + t = y' := ⟨_, rfl⟩
  have HX : Hid (x' = ps[p] - t * mkP p) := Lib.hid (by rw [hx, ← hm, hd, hx'])
  have HY : Hid (y' = ps[p + 1] + t) := Lib.hid (by rw [hy, hy'])
  have HR2 : Hid (r = true ↔ ctr [x', y']) := Lib.hid (by rw [hr.out, cyP_two p t ps hp hc x' y' HX.out HY.out])
  have w1' : IntKind.i64.wrap (t * m) = d := by rw [hd, IntKind.wrap_i64]; omega
  have w2' : IntKind.i64.wrap (x - d) = x' := by rw [hx', IntKind.wrap_i64]; omega
  have w3' : IntKind.i64.wrap (y + t) = y' := by rw [hy', IntKind.wrap_i64]; omega
  obtain ⟨q, hq⟩ : ∃ q, q = p + 1 := ⟨_, rfl⟩
  have w4' : IntKind.i64.wrap ((p : Int) + 1) = (q : Int) := by rw [IntKind.wrap_i64]; omega
  have w5' : IntKind.i64.wrap ((p : Int) + 2) = (p : Int) + 2 := by rw [IntKind.wrap_i64]; omega
  have HPX := Lib.hid hx
  have HPY := Lib.hid hy
  have z1 : (0 : Int) ≤ (p : Int) := by omega
  have z2 : (p : Int) < (ps.length : Int) := by omega
  have z3 : (0 : Int) ≤ (q : Int) := by omega
  have z4 : (q : Int) < (ps.length : Int) := by omega
  have z5 : (p : Int) + 2 ≤ (cap : Int) := by omega
  have z6 : (p : Int) ≤ (p : Int) + 2 := by omega
  have z7 : (0 : Int) ≤ (p : Int) + 2 := by omega
  have hpl : p < ps.length := by omega
  have HQ := Lib.hid hq
  have HSET := Lib.hid (cyP_set p t ps hp x' y' HX.out HY.out)
  have HCL := Lib.hid (cyP_len p t ps)
  have HB0 : Hid (Below w.heap.size w w) := Lib.hid (Below.refl _ _)
  have hov := ho
  clear ho hr hc hm hm25 hd hx' hy' hx hy hq
  have HOv0 := Lib.hid (hov)
  have d0 : w.cell? ⟨g, p, none⟩ = some (.int .i64 x) := (hov.1.cellAt p (by omega)).trans (by rw [flat_iat ps p hpl, HPX.out])
  have f0 := hov.1.frozenAt p
  clear hov
  go_enter Tryd.func41, Tryd.ntmps41
  go_wp2_with fail
  refine wp_region_held_drew (S := (fun _ => True)) (by kernel_rfl) (trivial) (fun hHeld => ?_)
  have hb : Below w.heap.size w w.drew := (Below.refl _ _).drew
  generalize w.drew = w1 at hb hHeld ⊢
  clear d0 f0
  have HB1 : Hid (Below w.heap.size w w1) := Lib.hid (HB0.out.trans (hb.mono HB0.out.size))
  have HZ1 : Hid (w.heap.size ≤ w1.heap.size) := Lib.hid hb.size
  have HOv1 := Lib.hid (HOv0.out.next hb)
  clear hb
  have d0 : w1.cell? ⟨g, p, none⟩ = some (.int .i64 x) := (HOv1.out.1.cellAt p (by omega)).trans (by rw [flat_iat ps p hpl, HPX.out])
  have f0 := HOv1.out.1.frozenAt p
  refine take1 (i := 0) (v := ?v1) (some 12) rfl rfl (by kernel_rfl) (by kernel_rfl) (by kernel_rfl) (fun _ _ _ h => h) (Or.inl ⟨by rfl, ?y1⟩) (by assumption) ?r1
  case y1 => (intro w hSw; (try dsimp only at hSw); go_simp; (first | done | with_reducible rfl))
  try simp only [Act.put, List.setIfInBounds_toArray, List.set_cons_zero, List.set_cons_succ]
  refine take1 (i := 1) (v := ?v2) (some 13) rfl rfl (by kernel_rfl) (by kernel_rfl) (by kernel_rfl) (fun _ _ _ h => h) (Or.inl ⟨by rfl, ?y2⟩) (by assumption) ?r2
  case y2 => (intro w hSw; (try dsimp only at hSw); go_simp; (first | done | with_reducible rfl))
  try simp only [Act.put, List.setIfInBounds_toArray, List.set_cons_zero, List.set_cons_succ]
  refine take1 (i := 2) (v := ?v3) (some 14) rfl rfl (by kernel_rfl) (by kernel_rfl) (by kernel_rfl) (fun _ _ _ h => h) (Or.inl ⟨by rfl, ?y3⟩) (by assumption) ?r3
  case y3 => (intro w hSw; (try dsimp only at hSw); go_simp; (first | done | with_reducible rfl))
  try simp only [Act.put, List.setIfInBounds_toArray, List.set_cons_zero, List.set_cons_succ]
  refine take1 (i := 4) (v := ?v4) (some 16) rfl rfl (by kernel_rfl) (by kernel_rfl) (by kernel_rfl) (fun _ _ _ h => h) (Or.inl ⟨by rfl, ?y4⟩) (by assumption) ?r4
  case y4 => (intro w hSw; (try dsimp only at hSw); go_simp; (first | done | with_reducible rfl))
  try simp only [Act.put, List.setIfInBounds_toArray, List.set_cons_zero, List.set_cons_succ]
  refine take1 (i := 5) (v := ?v5) (some 17) rfl rfl (by kernel_rfl) (by kernel_rfl) (by kernel_rfl) (fun _ _ _ h => h) (Or.inl ⟨by rfl, ?y5⟩) (by assumption) ?r5
  case y5 => (intro w hSw; (try dsimp only at hSw); go_simp; (first | done | with_reducible rfl))
  try simp only [Act.put, List.setIfInBounds_toArray, List.set_cons_zero, List.set_cons_succ]
  refine wpAnyH_ready (rs := [3, 6]) (by kernel_rfl) (by simp) ?_
  refine AllReadyH.cons rfl (fun K hK => ?_) (AllReadyH.cons rfl (fun K hK => ?_) AllReadyH.nil)
  -- ORDERS
  · go_simp
    refine hK.out _ _ (trivial) (fun hHeld => ?_)
    clear hK K
    try simp only [Act.put, List.setIfInBounds_toArray, List.set_cons_zero, List.set_cons_succ]
    refine wpAnyH_ready (rs := [6]) (by kernel_rfl) (by simp) ?_
    refine AllReadyH.cons rfl (fun K hK => ?_) AllReadyH.nil
    go_simp
    go_at_call 32
    refine (makeOne_any p m _ HM).mono ?_
    rintro e w' ⟨rfl, hw⟩
    subst w'
    try go_simp
    refine hK.out _ _ (trivial) (fun hHeld => ?_)
    clear hK K
    try simp only [Act.put, List.setIfInBounds_toArray, List.set_cons_zero, List.set_cons_succ]
    refine take1 (i := 7) (v := ?v6) (some 19) rfl rfl (by kernel_rfl) (by kernel_rfl) (by kernel_rfl) (fun _ _ _ h => h) (Or.inl ⟨by rfl, ?y6⟩) (by assumption) ?r6
    case y6 => (intro w hSw; (try dsimp only at hSw); go_simp; (first | done | with_reducible rfl))
    try simp only [Act.put, List.setIfInBounds_toArray, List.set_cons_zero, List.set_cons_succ]
    refine take1 (i := 8) (v := ?v7) (some 20) rfl rfl (by kernel_rfl) (by kernel_rfl) (by kernel_rfl) (fun _ _ _ h => h) (Or.inl ⟨by rfl, ?y7⟩) (by assumption) ?r7
    case y7 => (intro w hSw; (try dsimp only at hSw); go_simp; (first | done | with_reducible rfl))
    try simp only [Act.put, List.setIfInBounds_toArray, List.set_cons_zero, List.set_cons_succ]
    refine take1 (i := 9) (v := ?v8) (some 21) rfl rfl (by kernel_rfl) (by kernel_rfl) (by kernel_rfl) (fun _ _ _ h => h) (Or.inl ⟨by rfl, ?y8⟩) (by assumption) ?r8
    case y8 => (intro w hSw; (try dsimp only at hSw); go_simp; (first | done | with_reducible rfl))
    try simp only [Act.put, List.setIfInBounds_toArray, List.set_cons_zero, List.set_cons_succ]
    refine wpAnyH_ready (rs := [10]) (by kernel_rfl) (by simp) ?_
    refine AllReadyH.cons rfl (fun K hK => ?_) AllReadyH.nil
    go_simp
    have hv2 := HOv1.out.stored p (.int .i64 x')
    rw [flat_iset] at hv2
    have hm2 : Btw lo hi w1 (w1.setCell ⟨g, p, none⟩ (.int .i64 x')) := (Btw.refl lo hi w1).setCell (p := ⟨g, p, none⟩) hg1 hg2 _
    have HT1 : Hid (Btw lo hi w w1) := Lib.hid (Btw.of_below (Btw.refl lo hi w) HB1.out hlo)
    clear d0 f0
    generalize w1.setCell ⟨g, p, none⟩ (.int .i64 x') = w2 at hv2 hm2 ⊢
    have HV2 := Lib.hid hv2
    have HT2 : Hid (Btw lo hi w w2) := Lib.hid (HT1.out.trans hm2)
    have d1 : w2.cell? ⟨g, p, none⟩ = some (.int .i64 x') := (hv2.1.cellAt p (by omega)).trans (by rw [flat_iat _ p (by rw [List.length_set]; exact hpl), List.getElem_set_self])
    have e1 : w2.cell? ⟨g, q, none⟩ = some (.int .i64 y) := (hv2.1.cellAt q (by omega)).trans (by
      have := HQ.out
      subst this
      rw [flat_iat _ (p + 1) (by rw [List.length_set]; omega), List.getElem_set_ne (by omega), HPY.out])
    have f1 := hv2.1.frozenAt q
    clear hv2 hm2
    refine hK.out _ _ (trivial) (fun hHeld => ?_)
    clear hK K
    try simp only [Act.put]
    refine wpAnyH_done (by kernel_rfl) ?_ _
    go_wp2_with fail
    have hv3 := HV2.out.stored q (.int .i64 y')
    rw [flat_iset] at hv3
    have hm3 : Btw lo hi w2 (w2.setCell ⟨g, q, none⟩ (.int .i64 y')) := (Btw.refl lo hi w2).setCell (p := ⟨g, q, none⟩) hg1 hg2 _
    clear d1 e1 f1
    generalize w2.setCell ⟨g, q, none⟩ (.int .i64 y') = w3 at hv3 hm3 ⊢
    have HT3 : Hid (Btw lo hi w w3) := Lib.hid (HT2.out.trans hm3)
    have hsub := own_sub hv3.1 (by rw [List.length_set, List.length_set]) p x' y' hp (by
      have hq := HQ.out
      subst hq
      rw [List.getElem_set_ne (by omega), List.getElem_set_self]) (by
      have hq := HQ.out
      subst hq
      rw [List.getElem_set_self]) (cap - p) (by omega)
    have HV3 : Hid (Ow lo hi w3 3 1 (.slice (some ⟨g, 0, none⟩) ps.length cap) ps.length (flatC inC (cyP p t ps))) := Lib.hid (by
      have hq := HQ.out
      subst hq
      rw [← HSET.out]
      exact hv3)
    clear hv3 hm3
    refine (areCounters_any _ [x', y'] w3 hsub (by simp) r HR2).mono ?_
    rintro e w4 ⟨rfl, hb4⟩
    have HO4 := Lib.hid (HV3.out.next hb4)
    have HT4 : Hid (Btw lo hi w w4) := Lib.hid (Btw.of_below HT3.out hb4 (by have := HT3.out.size; omega))
    clear hb4 hsub
    go_wp2_with fail
    go_ret
    exact ⟨rfl, HO4.out, HT4.out⟩
  · go_simp
    go_at_call 32
    refine (makeOne_any p m _ HM).mono ?_
    rintro e w' ⟨rfl, hw⟩
    subst w'
    try go_simp
    refine hK.out _ _ (trivial) (fun hHeld => ?_)
    clear hK K
    try simp only [Act.put, List.setIfInBounds_toArray, List.set_cons_zero, List.set_cons_succ]
    refine take1 (i := 7) (v := ?v9) (some 19) rfl rfl (by kernel_rfl) (by kernel_rfl) (by kernel_rfl) (fun _ _ _ h => h) (Or.inl ⟨by rfl, ?y9⟩) (by assumption) ?r9
    case y9 => (intro w hSw; (try dsimp only at hSw); go_simp; (first | done | with_reducible rfl))
    try simp only [Act.put, List.setIfInBounds_toArray, List.set_cons_zero, List.set_cons_succ]
    refine wpAnyH_ready (rs := [3]) (by kernel_rfl) (by simp) ?_
    refine AllReadyH.cons rfl (fun K hK => ?_) AllReadyH.nil
    go_simp
    refine hK.out _ _ (trivial) (fun hHeld => ?_)
    clear hK K
    try simp only [Act.put, List.setIfInBounds_toArray, List.set_cons_zero, List.set_cons_succ]
    refine take1 (i := 8) (v := ?v10) (some 20) rfl rfl (by kernel_rfl) (by kernel_rfl) (by kernel_rfl) (fun _ _ _ h => h) (Or.inl ⟨by rfl, ?y10⟩) (by assumption) ?r10
    case y10 => (intro w hSw; (try dsimp only at hSw); go_simp; (first | done | with_reducible rfl))
    try simp only [Act.put, List.setIfInBounds_toArray, List.set_cons_zero, List.set_cons_succ]
    refine take1 (i := 9) (v := ?v11) (some 21) rfl rfl (by kernel_rfl) (by kernel_rfl) (by kernel_rfl) (fun _ _ _ h => h) (Or.inl ⟨by rfl, ?y11⟩) (by assumption) ?r11
    case y11 => (intro w hSw; (try dsimp only at hSw); go_simp; (first | done | with_reducible rfl))
    try simp only [Act.put, List.setIfInBounds_toArray, List.set_cons_zero, List.set_cons_succ]
    refine wpAnyH_ready (rs := [10]) (by kernel_rfl) (by simp) ?_
    refine AllReadyH.cons rfl (fun K hK => ?_) AllReadyH.nil
    go_simp
    have hv2 := HOv1.out.stored p (.int .i64 x')
    rw [flat_iset] at hv2
    have hm2 : Btw lo hi w1 (w1.setCell ⟨g, p, none⟩ (.int .i64 x')) := (Btw.refl lo hi w1).setCell (p := ⟨g, p, none⟩) hg1 hg2 _
    have HT1 : Hid (Btw lo hi w w1) := Lib.hid (Btw.of_below (Btw.refl lo hi w) HB1.out hlo)
    clear d0 f0
    generalize w1.setCell ⟨g, p, none⟩ (.int .i64 x') = w2 at hv2 hm2 ⊢
    have HV2 := Lib.hid hv2
    have HT2 : Hid (Btw lo hi w w2) := Lib.hid (HT1.out.trans hm2)
    have d1 : w2.cell? ⟨g, p, none⟩ = some (.int .i64 x') := (hv2.1.cellAt p (by omega)).trans (by rw [flat_iat _ p (by rw [List.length_set]; exact hpl), List.getElem_set_self])
    have e1 : w2.cell? ⟨g, q, none⟩ = some (.int .i64 y) := (hv2.1.cellAt q (by omega)).trans (by
      have := HQ.out
      subst this
      rw [flat_iat _ (p + 1) (by rw [List.length_set]; omega), List.getElem_set_ne (by omega), HPY.out])
    have f1 := hv2.1.frozenAt q
    clear hv2 hm2
    refine hK.out _ _ (trivial) (fun hHeld => ?_)
    clear hK K
    try simp only [Act.put]
    refine wpAnyH_done (by kernel_rfl) ?_ _
    go_wp2_with fail
    have hv3 := HV2.out.stored q (.int .i64 y')
    rw [flat_iset] at hv3
    have hm3 : Btw lo hi w2 (w2.setCell ⟨g, q, none⟩ (.int .i64 y')) := (Btw.refl lo hi w2).setCell (p := ⟨g, q, none⟩) hg1 hg2 _
    clear d1 e1 f1
    generalize w2.setCell ⟨g, q, none⟩ (.int .i64 y') = w3 at hv3 hm3 ⊢
    have HT3 : Hid (Btw lo hi w w3) := Lib.hid (HT2.out.trans hm3)
    have hsub := own_sub hv3.1 (by rw [List.length_set, List.length_set]) p x' y' hp (by
      have hq := HQ.out
      subst hq
      rw [List.getElem_set_ne (by omega), List.getElem_set_self]) (by
      have hq := HQ.out
      subst hq
      rw [List.getElem_set_self]) (cap - p) (by omega)
    have HV3 : Hid (Ow lo hi w3 3 1 (.slice (some ⟨g, 0, none⟩) ps.length cap) ps.length (flatC inC (cyP p t ps))) := Lib.hid (by
      have hq := HQ.out
      subst hq
      rw [← HSET.out]
      exact hv3)
    clear hv3 hm3
    refine (areCounters_any _ [x', y'] w3 hsub (by simp) r HR2).mono ?_
    rintro e w4 ⟨rfl, hb4⟩
    have HO4 := Lib.hid (HV3.out.next hb4)
    have HT4 : Hid (Btw lo hi w w4) := Lib.hid (Btw.of_below HT3.out hb4 (by have := HT3.out.size; omega))
    clear hb4 hsub
    go_wp2_with fail
    go_ret
    exact ⟨rfl, HO4.out, HT4.out⟩
  -- SREDRO
end Go.Proofs.YtbdddpchlmddbaaDoor
