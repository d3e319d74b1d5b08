/- An amount, drawn. -/
import Derived.Test.YtghdmiimanhjgaaDoorKc
import Derived.Test.YtghdmiimanhjgaaDoorBoards
import Derived.Test.YtghdmiimanhjgaaDoorKa
import Derived.Deep.RegionHeld3
import Derived.Deep.AppendLies
import Derived.OwnWalk
import Derived.Maps.AppendAt
namespace Go.Proofs.YtghdmiimanhjgaaDoor
set_option linter.unusedVariables false
open Go.RowKit
set_option linter.unusedSimpArgs false

/-- In a world behind w: the reader, the answer's box, the amount's box A, its row. -/
def AmAt (w wi : World) (cb : Nat) (cd : Value) (n A : Nat) (a : Option Addr) (cap : Nat) (cs : List Int) : Prop :=
  w.grownBy wi (some cb) ∧ CurAt wi cb cd n ∧ wi.heap[w.heap.size]? = some (.cells #[.slice none 0 0] 27 (0, 0)) ∧ wi.heap[A]? = some (.cells #[.slice a cs.length cap] 27 (0, 0)) ∧ wi.ownsRow (A + 1) 3 1 (.slice a cs.length cap) cs.length (flatC inC cs) ∧ w.heap.size < A
section
variable {w wi w' : World} {cb : Nat} {cd : Value} {n m A : Nat} {a : Option Addr} {cap : Nat} {cs : List Int}
theorem AmAt.step (h : AmAt w wi cb cd n A a cap cs) (hcb : cb < w.heap.size) (hg : wi.grownBy w' (some cb)) (hc : CurAt w' cb cd m) : AmAt w w' cb cd m A a cap cs := by
  obtain ⟨h1, h2, h3, h4, h5, h6⟩ := h
  exact ⟨grown_trans h1 hg, hc, (hg.block _ (Array.getElem?_eq_some_iff.1 h3).1 (by intro e; injection e with e; omega)).trans h3, (hg.block _ (Array.getElem?_eq_some_iff.1 h4).1 (by intro e; injection e with e; omega)).trans h4, own_grown h5 hg (by omega), h6⟩
theorem AmAt.alloc (h : AmAt w wi cb cd n A a cap cs) (hcb : cb < w.heap.size) (o : Obj) : AmAt w (wi.alloc o) cb cd n A a cap cs :=
  h.step hcb (grown_any (grown_alloc wi o none)) (h.2.1.old (grown_alloc wi o none))
theorem AmAt.drew (h : AmAt w wi cb cd n A a cap cs) (hcb : cb < w.heap.size) : AmAt w wi.drew cb cd n A a cap cs :=
  h.step hcb (grown_drewN wi 1 _) (h.2.1.old (grown_drewN wi 1 _))
theorem AmAt.code {L : List UInt8} (h : AmAt w wi cb cd n A a cap cs) (hr : CodeR w cb cd L) : CodeR wi cb cd L := hr.grown h.1
theorem pick_am {L : List UInt8} (k : Int) (h : AmAt w wi cb cd n A a cap cs) (hcb : cb < w.heap.size) (hn : n < 4611686018427387000) (h1 : 1 ≤ k) (h2 : k ≤ 1000000000) (hr : CodeR w cb cd L) :
    Calls Tryd.prog 26 #[.pointer (some ⟨cb, 0, none⟩), .int .i64 k] wi fun e w' => (∃ r : Int, e = .returned (.int .i64 r) ∧ 0 ≤ r ∧ r < k) ∧ AmAt w w' cb cd (n + 2) A a cap cs :=
  (pick_any cb cd L n k wi (by omega) h1 h2 h.2.1 (h.code hr)).mono fun e w' ⟨a, b, c⟩ => ⟨a, h.step hcb c b⟩
theorem among_am {L : List UInt8} {v : Value} {zs : List Int} (h : AmAt w wi cb cd n A a cap cs) (hcb : cb < w.heap.size) (hn : n < 4611686018427387000) (hl : 1 ≤ zs.length ∧ zs.length ≤ 100) (hv : SlR wi v (zs.map (Value.int .i64))) (hne : ∀ a m c, v = .slice (some a) m c → a.block ≠ cb) (hr : CodeR w cb cd L) :
    Calls Tryd.prog 25 #[.pointer (some ⟨cb, 0, none⟩), v] wi fun e w' => (∃ z, e = .returned (.int .i64 z) ∧ z ∈ zs) ∧ AmAt w w' cb cd (n + 2) A a cap cs :=
  (among_any cb cd L n v zs wi hn hl hv hne h.2.1 (h.code hr)).mono fun e w' ⟨a, b, c⟩ => ⟨a, h.step hcb c b⟩
theorem AmAt.push (h : AmAt w wi cb cd n A a cap cs) (hcb : cb < w.heap.size) {g2 c2 : Nat} {x : Int} (ho : w'.ownsRow (A + 1) 3 1 (.slice (some ⟨g2, 0, none⟩) (cs.length + 1) c2) (cs.length + 1) (flatC inC cs ++ [.int .i64 x])) (hg : wi.grownBy w' (Value.slice a cs.length cap).ownBlock) :
    AmAt w (w'.setCell ⟨A, 0, none⟩ (.slice (some ⟨g2, 0, none⟩) (cs.length + 1) c2)) cb cd n A (some ⟨g2, 0, none⟩) c2 (cs ++ [x]) ∧ w'.heap[A]? = some (.cells #[.slice a cs.length cap] 27 (0, 0)) := by
  obtain ⟨h1, h2, h3, h4, h5, h6⟩ := h
  have hob : ∀ q, q < A + 1 → some q ≠ (Value.slice a cs.length cap).ownBlock := fun q hq e => by have := (h5.lt q e.symm).1; omega
  have hlA := (Array.getElem?_eq_some_iff.1 h4).1
  have k3 := (hg.block _ (Array.getElem?_eq_some_iff.1 h3).1 (hob _ (by omega))).trans h3
  have k4 := (hg.block _ hlA (hob _ (by omega))).trans h4
  have k1 : w.grownBy w' (some cb) := ⟨hg.os.trans h1.os, hg.tape.trans h1.tape, hg.output.trans h1.output, Nat.le_trans h1.size hg.size, fun q hq hn => (hg.block q (Nat.lt_of_lt_of_le hq h1.size) (hob q (by omega))).trans (h1.block q hq hn)⟩
  have k2 := h2.row hg (hob cb (by omega))
  have hle : (cs ++ [x]).length = cs.length + 1 := by simp
  have hg2 := (ho.lt g2 rfl).1
  refine ⟨?_, k4⟩
  unfold AmAt
  rw [hle, flatC_app]
  refine ⟨grown_set_new k1 _ _ _ (by omega), k2.set _ _ _ (by omega), (heap_setCell_other w' ⟨A, 0, none⟩ _ _ (by show _ ≠ A; omega)).trans k3, ?_, own_of_block ho fun q hq => heap_setCell_other w' ⟨A, 0, none⟩ q _ (by cases hq; show g2 ≠ A; omega), h6⟩
  have := heap_setCell_same w' A 0 _ _ (.slice (some ⟨g2, 0, none⟩) (cs.length + 1) c2) k4
  simpa using this
theorem AmAt.first {g : Nat} {y : Int} (h : AmAt w wi cb cd n A (some ⟨g, 0, none⟩) cap cs) (hcb : cb < w.heap.size) : AmAt w (wi.setCell ⟨g, 0, none⟩ (.int .i64 y)) cb cd n A (some ⟨g, 0, none⟩) cap (cs.set 0 y) := by
  obtain ⟨h1, h2, h3, h4, h5, h6⟩ := h
  have hl := (h5.lt g rfl).1
  have e1 : flatC inC (cs.set 0 y) = (flatC inC cs).set 0 (.int .i64 y) := by
    cases cs with
    | nil => rfl
    | cons p t => rfl
  unfold AmAt
  rw [List.length_set, e1]
  exact ⟨grown_set_new h1 _ _ _ (by omega), h2.set _ _ _ (by omega), (heap_setCell_other wi ⟨g, 0, none⟩ _ _ (by show _ ≠ g; omega)).trans h3, (heap_setCell_other wi ⟨g, 0, none⟩ _ _ (by show _ ≠ g; omega)).trans h4, (h5.stored 0 (.int .i64 y)).1, h6⟩
theorem AmAt.fin (h : AmAt w wi cb cd n A a cap cs) (hcb : cb < w.heap.size) : (wi.setCell ⟨w.heap.size, 0, none⟩ (.slice a cs.length cap)).ownsRow w.heap.size 3 1 (.slice a cs.length cap) cs.length (flatC inC cs) ∧ CurAt (wi.setCell ⟨w.heap.size, 0, none⟩ (.slice a cs.length cap)) cb cd n ∧ w.grownBy (wi.setCell ⟨w.heap.size, 0, none⟩ (.slice a cs.length cap)) (some cb) := by
  obtain ⟨h1, h2, h3, h4, h5, h6⟩ := h
  exact ⟨own_mono (own_of_block h5 fun q hq => heap_setCell_other _ _ q _ (by have := (h5.lt q hq).1; show q ≠ w.heap.size; omega)) (by omega), h2.set _ _ _ (by omega), grown_set_new h1 _ _ _ (Nat.le_refl _)⟩
end
def amZ : List Int := [0, 0, 1, 5, 11, 12, 99, 9999]
def abZ : List Int := [-1, 10000]

set_option maxRecDepth 100000 in
set_option maxHeartbeats 6400000 in
theorem amount7_any (cb : Nat) (cd : Value) (L : List UInt8) (n N : Nat) (sa : Option Addr) (sc : Nat) (w : World) (hN : N ≤ 7) (hn : n < 4611686018427300000) (hc : CurAt w cb cd n) (hr : CodeR w cb cd L) :
    Calls Tryd.prog 24 #[.pointer (some ⟨cb, 0, none⟩), .slice sa N sc] w fun e w' => (∃ (v : Value) (cs : List Int), e = .returned (.agg #[v]) ∧ w'.ownsRow w.heap.size 3 1 v cs.length (flatC inC cs) ∧ cs.length ≤ 8) ∧ CurAt w' cb cd (n + 100) ∧ w.grownBy w' (some cb) := by
  obtain ⟨i0, hi, hz0, hz1, hz2⟩ := info_parts Tryd.infoI5
  have hcb := hc.lt
  have HR := Lib.hid hr
  obtain ⟨W1, hW1⟩ : ∃ W1, w.alloc (.cells #[.slice none 0 0] 27) = W1 := ⟨_, rfl⟩
  have hg1 : w.grownBy W1 none := by rw [← hW1]; exact grown_alloc _ _ _
  have hk1 : W1.heap[w.heap.size]? = some (.cells #[.slice none 0 0] 27 (0, 0)) := by rw [← hW1]; exact alloc_at rfl
  have hs1 : w.heap.size < W1.heap.size := by rw [← hW1]; simp
  have hg2 : W1.grownBy (W1.alloc (.cells #[.slice none 0 0] 27)) none := grown_alloc _ _ _
  have HA2 : Hid (AmAt w (W1.alloc (.cells #[.slice none 0 0] 27)) cb cd n W1.heap.size none 0 []) := Lib.hid ⟨grown_any (grown_trans hg1 hg2), (hc.old hg1).old hg2, (hg2.block _ hs1 (by simp)).trans hk1, alloc_at rfl, own_nil' _ _ _ _, hs1⟩
  have hcb1 : cb < W1.heap.size := by omega
  clear hg1 hk1 hg2 hc hr
  have HB0 : Hid (Below w.heap.size w w) := Lib.hid (Below.refl _ _)
  go_enter Tryd.func24, Tryd.ntmps24
  go_wp2_with fail
  try rw [hW1]
  generalize W1.alloc (.cells #[.slice none 0 0] 27) = W2 at HA2 ⊢
  go_loopw [6] (fun i wr => ∃ (k m : Nat) (a : Option Addr) (cap : Nat) (cs : List Int), k ≤ N ∧ i = .int .i64 k ∧ cs.length = k ∧ m ≤ n + 2 * k ∧ Hid (AmAt w wr cb cd m W1.heap.size a cap cs)) (fun i _ => N - (intOf i).toNat)
  case atStart => exact ⟨0, n, none, 0, [], Nat.zero_le _, rfl, rfl, by omega, HA2⟩
  case round =>
    obtain ⟨k, m, a, cap, cs, hk, rfl, hcl, hm, HA⟩ := hrel
    have HCL := Lib.hid hcl
    clear hcl
    by_cases hlt : k < N
    · have z0 : (k : Int) < (N : Int) := by omega
      obtain ⟨c0, f0⟩ := cell1 HA.out.2.2.2.1
      go_wp2_with fail
      refine wp_region_held_drew (S := (fun _ => True)) (by kernel_rfl) (trivial) (fun hHeld => ?_)
      have ha4 := HA.out.drew hcb
      generalize wr.drew = w4 at ha4 hHeld ⊢
      have HA4 := Lib.hid ha4
      clear ha4 c0 f0
      obtain ⟨c0, f0⟩ := cell1 HA4.out.2.2.2.1
      refine take1 (i := 0) (v := ?v1) (some 14) rfl rfl (by kernel_rfl) (by kernel_rfl) (by kernel_rfl) (fun _ _ _ h => h) (Or.inl ⟨by rfl, ?y1⟩) (by assumption) ?r1
      case y1 => (intro w hSw; (try dsimp only at hSw); go_simp; (first | done | with_reducible rfl))
      try simp only [Act.put, List.setIfInBounds_toArray, List.set_cons_zero, List.set_cons_succ]
      refine take1 (i := 2) (v := ?v2) (some 16) rfl rfl (by kernel_rfl) (by kernel_rfl) (by kernel_rfl) (fun _ _ _ h => h) (Or.inl ⟨by rfl, ?y2⟩) (by assumption) ?r2
      case y2 => (intro w hSw; (try dsimp only at hSw); go_simp; (first | done | with_reducible rfl))
      try simp only [Act.put, List.setIfInBounds_toArray, List.set_cons_zero, List.set_cons_succ]
      refine wpAnyH_ready (rs := [1, 3]) (by kernel_rfl) (by simp) ?_
      refine AllReadyH.cons rfl (fun K hK => ?_) (AllReadyH.cons rfl (fun K hK => ?_) AllReadyH.nil)
      · go_simp
        refine hK.out _ _ (trivial) (fun hHeld => ?_)
        clear hK K
        try simp only [Act.put, List.setIfInBounds_toArray, List.set_cons_zero, List.set_cons_succ]
        refine wpAnyH_ready (rs := [3]) (by kernel_rfl) (by simp) ?_
        refine AllReadyH.cons rfl (fun K hK => ?_) AllReadyH.nil
        go_simp
        have ha5 := HA4.out.alloc hcb (.cells (amZ.map (Value.int .i64)).toArray 3)
        have HSL := Lib.hid (slr_lit w4 (amZ.map (Value.int .i64)) 3 (by decide))
        have HNE : Hid (w4.heap.size ≠ cb) := Lib.hid (by have := HA4.out.1.size; omega)
        have HAM := Lib.hid (among_am (zs := amZ) ha5 hcb (by omega) (by decide) HSL.out (fun a m c e => by cases e; exact HNE.out) HR.out)
        have HA5 := Lib.hid ha5
        clear ha5 HSL c0 f0
        change K _ (w4.alloc (.cells (amZ.map (Value.int .i64)).toArray 3))
        generalize w4.alloc (.cells (amZ.map (Value.int .i64)).toArray 3) = w5 at HAM HA5 ⊢
        obtain ⟨c0, f0⟩ := cell1 HA5.out.2.2.2.1
        refine hK.out _ _ (trivial) (fun hHeld => ?_)
        clear hK K
        try simp only [Act.put, List.setIfInBounds_toArray, List.set_cons_zero, List.set_cons_succ]
        refine wpAnyH_ready (rs := [4]) (by kernel_rfl) (by simp) ?_
        refine AllReadyH.cons rfl (fun K hK => ?_) AllReadyH.nil
        go_simp
        go_at_call 25
        refine (HAM.out).mono ?_
        rintro e w6 ⟨⟨x, rfl, -⟩, ha6⟩
        have HA6 := Lib.hid ha6
        clear ha6 c0 f0
        obtain ⟨c0, f0⟩ := cell1 HA6.out.2.2.2.1
        try go_simp
        refine hK.out _ _ (trivial) (fun hHeld => ?_)
        clear hK K
        try simp only [Act.put, List.setIfInBounds_toArray, List.set_cons_zero, List.set_cons_succ]
        refine wpAnyH_ready (rs := [5]) (by kernel_rfl) (by simp) ?_
        refine AllReadyH.cons rfl (fun K hK => ?_) AllReadyH.nil
        go_simp
        have ha7 := HA6.out.alloc hcb (.cells #[.int .i64 x] 3)
        have hnx : (w6.alloc (.cells #[.int .i64 x] 3)).heap[w6.heap.size]? = some (.cells #[.int .i64 x] 3 (0, 0)) := alloc_at rfl
        generalize w6.alloc (.cells #[.int .i64 x] 3) = w7 at ha7 hnx ⊢
        have HA7 := Lib.hid ha7
        have HNX := Lib.hid hnx
        clear ha7 hnx c0 f0
        obtain ⟨c0, f0⟩ := cell1 HA7.out.2.2.2.1
        refine hK.out _ _ (trivial) (fun hHeld => ?_)
        clear hK K
        try simp only [Act.put, List.setIfInBounds_toArray, List.set_cons_zero, List.set_cons_succ]
        have HLA := Lib.hid (lt_of_block HA7.out.2.2.2.1)
        refine wpAnyH_ready (rs := [6]) (by kernel_rfl) (by simp) ?_
        refine AllReadyH.cons rfl (fun K hK => ?_) AllReadyH.nil
        refine step_append_lies _ (by rfl) _ _ _ (by rfl) (W1.heap.size + 1) 3 i0 (.int .i64 0) 1 8 Tryd.underlying25 hi hz0 hz1 hz2 rfl (by decide) _ cs.length _ (by rfl) HA7.out.2.2.2.2.1 ⟨w6.heap.size, 0, none⟩ 1 1 [.int .i64 x] (by rfl) (by rfl) (World.news_of_block HNX.out) ?h1x (by decide) ?h63x ?hbyx ?hbsx _ rfl ?_
        case h1x => intro u hu; rw [List.mem_singleton.1 hu]; rfl
        case h63x => (have := HCL.out; unfold maxLen; omega)
        case hbyx => (have := HCL.out; omega)
        case hbsx => (have := HLA.out; omega)
        intro g2 c2 wn hown hgr _ _
        obtain ⟨hp8, hk8⟩ := HA7.out.push hcb hown hgr
        have HP8 := Lib.hid hp8
        clear hown hgr c0 f0 hp8
        obtain ⟨c0, f0⟩ := cell1 hk8
        clear hk8
        refine hK.out _ _ (trivial) (fun hHeld => ?_)
        clear hK K
        try simp only [Act.put, List.setIfInBounds_toArray]
        refine take1 (i := 7) (v := ?v3) (some 21) rfl rfl (by kernel_rfl) (by kernel_rfl) (by kernel_rfl) (fun _ _ _ h => h) (Or.inl ⟨by rfl, ?y3⟩) (by assumption) ?r3
        case y3 => (intro w hSw; (try dsimp only at hSw); go_simp; (first | done | with_reducible rfl))
        try simp only [Act.put, List.setIfInBounds_toArray, List.set_cons_zero, List.set_cons_succ]
        refine wpAnyH_ready (rs := [8]) (by kernel_rfl) (by simp) ?_
        refine AllReadyH.cons rfl (fun K hK => ?_) AllReadyH.nil
        go_simp
        clear c0 f0
        generalize wn.setCell ⟨W1.heap.size, 0, none⟩ (.slice (some ⟨g2, 0, none⟩) (cs.length + 1) c2) = wz at HP8 ⊢
        refine hK.out _ _ (trivial) (fun hHeld => ?_)
        clear hK K
        try simp only [Act.put]
        refine wpAnyH_done (by kernel_rfl) ?_ _
        go_wp2_with fail
        go_roundw
        case rel => exact ⟨k + 1, m + 2, some ⟨g2, 0, none⟩, c2, cs ++ [x], by omega, by go_num, by rw [List.length_append, List.length_singleton, HCL.out], by omega, HP8⟩
        case measure => simp [intOf]; omega
      · go_simp
        have ha5 := HA4.out.alloc hcb (.cells (amZ.map (Value.int .i64)).toArray 3)
        have HSL := Lib.hid (slr_lit w4 (amZ.map (Value.int .i64)) 3 (by decide))
        have HNE : Hid (w4.heap.size ≠ cb) := Lib.hid (by have := HA4.out.1.size; omega)
        have HAM := Lib.hid (among_am (zs := amZ) ha5 hcb (by omega) (by decide) HSL.out (fun a m c e => by cases e; exact HNE.out) HR.out)
        have HA5 := Lib.hid ha5
        clear ha5 HSL c0 f0
        change K _ (w4.alloc (.cells (amZ.map (Value.int .i64)).toArray 3))
        generalize w4.alloc (.cells (amZ.map (Value.int .i64)).toArray 3) = w5 at HAM HA5 ⊢
        obtain ⟨c0, f0⟩ := cell1 HA5.out.2.2.2.1
        refine hK.out _ _ (trivial) (fun hHeld => ?_)
        clear hK K
        try simp only [Act.put, List.setIfInBounds_toArray, List.set_cons_zero, List.set_cons_succ]
        refine wpAnyH_ready (rs := [1, 4]) (by kernel_rfl) (by simp) ?_
        refine AllReadyH.cons rfl (fun K hK => ?_) (AllReadyH.cons rfl (fun K hK => ?_) AllReadyH.nil)
        · go_simp
          refine hK.out _ _ (trivial) (fun hHeld => ?_)
          clear hK K
          try simp only [Act.put, List.setIfInBounds_toArray, List.set_cons_zero, List.set_cons_succ]
          refine wpAnyH_ready (rs := [4]) (by kernel_rfl) (by simp) ?_
          refine AllReadyH.cons rfl (fun K hK => ?_) AllReadyH.nil
          go_simp
          go_at_call 25
          refine (HAM.out).mono ?_
          rintro e w6 ⟨⟨x, rfl, -⟩, ha6⟩
          have HA6 := Lib.hid ha6
          clear ha6 c0 f0
          obtain ⟨c0, f0⟩ := cell1 HA6.out.2.2.2.1
          try go_simp
          refine hK.out _ _ (trivial) (fun hHeld => ?_)
          clear hK K
          try simp only [Act.put, List.setIfInBounds_toArray, List.set_cons_zero, List.set_cons_succ]
          refine wpAnyH_ready (rs := [5]) (by kernel_rfl) (by simp) ?_
          refine AllReadyH.cons rfl (fun K hK => ?_) AllReadyH.nil
          go_simp
          have ha7 := HA6.out.alloc hcb (.cells #[.int .i64 x] 3)
          have hnx : (w6.alloc (.cells #[.int .i64 x] 3)).heap[w6.heap.size]? = some (.cells #[.int .i64 x] 3 (0, 0)) := alloc_at rfl
          generalize w6.alloc (.cells #[.int .i64 x] 3) = w7 at ha7 hnx ⊢
          have HA7 := Lib.hid ha7
          have HNX := Lib.hid hnx
          clear ha7 hnx c0 f0
          obtain ⟨c0, f0⟩ := cell1 HA7.out.2.2.2.1
          refine hK.out _ _ (trivial) (fun hHeld => ?_)
          clear hK K
          try simp only [Act.put, List.setIfInBounds_toArray, List.set_cons_zero, List.set_cons_succ]
          have HLA := Lib.hid (lt_of_block HA7.out.2.2.2.1)
          refine wpAnyH_ready (rs := [6]) (by kernel_rfl) (by simp) ?_
          refine AllReadyH.cons rfl (fun K hK => ?_) AllReadyH.nil
          refine step_append_lies _ (by rfl) _ _ _ (by rfl) (W1.heap.size + 1) 3 i0 (.int .i64 0) 1 8 Tryd.underlying25 hi hz0 hz1 hz2 rfl (by decide) _ cs.length _ (by rfl) HA7.out.2.2.2.2.1 ⟨w6.heap.size, 0, none⟩ 1 1 [.int .i64 x] (by rfl) (by rfl) (World.news_of_block HNX.out) ?h1xx (by decide) ?h63xx ?hbyxx ?hbsxx _ rfl ?_
          case h1xx => intro u hu; rw [List.mem_singleton.1 hu]; rfl
          case h63xx => (have := HCL.out; unfold maxLen; omega)
          case hbyxx => (have := HCL.out; omega)
          case hbsxx => (have := HLA.out; omega)
          intro g2 c2 wn hown hgr _ _
          obtain ⟨hp8, hk8⟩ := HA7.out.push hcb hown hgr
          have HP8 := Lib.hid hp8
          clear hown hgr c0 f0 hp8
          obtain ⟨c0, f0⟩ := cell1 hk8
          clear hk8
          refine hK.out _ _ (trivial) (fun hHeld => ?_)
          clear hK K
          try simp only [Act.put, List.setIfInBounds_toArray]
          refine take1 (i := 7) (v := ?v4) (some 21) rfl rfl (by kernel_rfl) (by kernel_rfl) (by kernel_rfl) (fun _ _ _ h => h) (Or.inl ⟨by rfl, ?y4⟩) (by assumption) ?r4
          case y4 => (intro w hSw; (try dsimp only at hSw); go_simp; (first | done | with_reducible rfl))
          try simp only [Act.put, List.setIfInBounds_toArray, List.set_cons_zero, List.set_cons_succ]
          refine wpAnyH_ready (rs := [8]) (by kernel_rfl) (by simp) ?_
          refine AllReadyH.cons rfl (fun K hK => ?_) AllReadyH.nil
          go_simp
          clear c0 f0
          generalize wn.setCell ⟨W1.heap.size, 0, none⟩ (.slice (some ⟨g2, 0, none⟩) (cs.length + 1) c2) = wz at HP8 ⊢
          refine hK.out _ _ (trivial) (fun hHeld => ?_)
          clear hK K
          try simp only [Act.put]
          refine wpAnyH_done (by kernel_rfl) ?_ _
          go_wp2_with fail
          go_roundw
          case rel => exact ⟨k + 1, m + 2, some ⟨g2, 0, none⟩, c2, cs ++ [x], by omega, by go_num, by rw [List.length_append, List.length_singleton, HCL.out], by omega, HP8⟩
          case measure => simp [intOf]; omega
        · go_simp
          go_at_call 25
          refine (HAM.out).mono ?_
          rintro e w6 ⟨⟨x, rfl, -⟩, ha6⟩
          have HA6 := Lib.hid ha6
          clear ha6 c0 f0
          obtain ⟨c0, f0⟩ := cell1 HA6.out.2.2.2.1
          try go_simp
          refine hK.out _ _ (trivial) (fun hHeld => ?_)
          clear hK K
          try simp only [Act.put, List.setIfInBounds_toArray, List.set_cons_zero, List.set_cons_succ]
          refine wpAnyH_ready (rs := [1, 5]) (by kernel_rfl) (by simp) ?_
          refine AllReadyH.cons rfl (fun K hK => ?_) (AllReadyH.cons rfl (fun K hK => ?_) AllReadyH.nil)
          · go_simp
            refine hK.out _ _ (trivial) (fun hHeld => ?_)
            clear hK K
            try simp only [Act.put, List.setIfInBounds_toArray, List.set_cons_zero, List.set_cons_succ]
            refine wpAnyH_ready (rs := [5]) (by kernel_rfl) (by simp) ?_
            refine AllReadyH.cons rfl (fun K hK => ?_) AllReadyH.nil
            go_simp
            have ha7 := HA6.out.alloc hcb (.cells #[.int .i64 x] 3)
            have hnx : (w6.alloc (.cells #[.int .i64 x] 3)).heap[w6.heap.size]? = some (.cells #[.int .i64 x] 3 (0, 0)) := alloc_at rfl
            generalize w6.alloc (.cells #[.int .i64 x] 3) = w7 at ha7 hnx ⊢
            have HA7 := Lib.hid ha7
            have HNX := Lib.hid hnx
            clear ha7 hnx c0 f0
            obtain ⟨c0, f0⟩ := cell1 HA7.out.2.2.2.1
            refine hK.out _ _ (trivial) (fun hHeld => ?_)
            clear hK K
            try simp only [Act.put, List.setIfInBounds_toArray, List.set_cons_zero, List.set_cons_succ]
            have HLA := Lib.hid (lt_of_block HA7.out.2.2.2.1)
            refine wpAnyH_ready (rs := [6]) (by kernel_rfl) (by simp) ?_
            refine AllReadyH.cons rfl (fun K hK => ?_) AllReadyH.nil
            refine step_append_lies _ (by rfl) _ _ _ (by rfl) (W1.heap.size + 1) 3 i0 (.int .i64 0) 1 8 Tryd.underlying25 hi hz0 hz1 hz2 rfl (by decide) _ cs.length _ (by rfl) HA7.out.2.2.2.2.1 ⟨w6.heap.size, 0, none⟩ 1 1 [.int .i64 x] (by rfl) (by rfl) (World.news_of_block HNX.out) ?h1xxx (by decide) ?h63xxx ?hbyxxx ?hbsxxx _ rfl ?_
            case h1xxx => intro u hu; rw [List.mem_singleton.1 hu]; rfl
            case h63xxx => (have := HCL.out; unfold maxLen; omega)
            case hbyxxx => (have := HCL.out; omega)
            case hbsxxx => (have := HLA.out; omega)
            intro g2 c2 wn hown hgr _ _
            obtain ⟨hp8, hk8⟩ := HA7.out.push hcb hown hgr
            have HP8 := Lib.hid hp8
            clear hown hgr c0 f0 hp8
            obtain ⟨c0, f0⟩ := cell1 hk8
            clear hk8
            refine hK.out _ _ (trivial) (fun hHeld => ?_)
            clear hK K
            try simp only [Act.put, List.setIfInBounds_toArray]
            refine take1 (i := 7) (v := ?v5) (some 21) rfl rfl (by kernel_rfl) (by kernel_rfl) (by kernel_rfl) (fun _ _ _ h => h) (Or.inl ⟨by rfl, ?y5⟩) (by assumption) ?r5
            case y5 => (intro w hSw; (try dsimp only at hSw); go_simp; (first | done | with_reducible rfl))
            try simp only [Act.put, List.setIfInBounds_toArray, List.set_cons_zero, List.set_cons_succ]
            refine wpAnyH_ready (rs := [8]) (by kernel_rfl) (by simp) ?_
            refine AllReadyH.cons rfl (fun K hK => ?_) AllReadyH.nil
            go_simp
            clear c0 f0
            generalize wn.setCell ⟨W1.heap.size, 0, none⟩ (.slice (some ⟨g2, 0, none⟩) (cs.length + 1) c2) = wz at HP8 ⊢
            refine hK.out _ _ (trivial) (fun hHeld => ?_)
            clear hK K
            try simp only [Act.put]
            refine wpAnyH_done (by kernel_rfl) ?_ _
            go_wp2_with fail
            go_roundw
            case rel => exact ⟨k + 1, m + 2, some ⟨g2, 0, none⟩, c2, cs ++ [x], by omega, by go_num, by rw [List.length_append, List.length_singleton, HCL.out], by omega, HP8⟩
            case measure => simp [intOf]; omega
          · go_simp
            have ha7 := HA6.out.alloc hcb (.cells #[.int .i64 x] 3)
            have hnx : (w6.alloc (.cells #[.int .i64 x] 3)).heap[w6.heap.size]? = some (.cells #[.int .i64 x] 3 (0, 0)) := alloc_at rfl
            generalize w6.alloc (.cells #[.int .i64 x] 3) = w7 at ha7 hnx ⊢
            have HA7 := Lib.hid ha7
            have HNX := Lib.hid hnx
            clear ha7 hnx c0 f0
            obtain ⟨c0, f0⟩ := cell1 HA7.out.2.2.2.1
            refine hK.out _ _ (trivial) (fun hHeld => ?_)
            clear hK K
            try simp only [Act.put, List.setIfInBounds_toArray, List.set_cons_zero, List.set_cons_succ]
            have HLA := Lib.hid (lt_of_block HA7.out.2.2.2.1)
            refine wpAnyH_ready (rs := [1]) (by kernel_rfl) (by simp) ?_
            refine AllReadyH.cons rfl (fun K hK => ?_) AllReadyH.nil
            go_simp
            refine hK.out _ _ (trivial) (fun hHeld => ?_)
            clear hK K
            try simp only [Act.put, List.setIfInBounds_toArray, List.set_cons_zero, List.set_cons_succ]
            refine wpAnyH_ready (rs := [6]) (by kernel_rfl) (by simp) ?_
            refine AllReadyH.cons rfl (fun K hK => ?_) AllReadyH.nil
            refine step_append_lies _ (by rfl) _ _ _ (by rfl) (W1.heap.size + 1) 3 i0 (.int .i64 0) 1 8 Tryd.underlying25 hi hz0 hz1 hz2 rfl (by decide) _ cs.length _ (by rfl) HA7.out.2.2.2.2.1 ⟨w6.heap.size, 0, none⟩ 1 1 [.int .i64 x] (by rfl) (by rfl) (World.news_of_block HNX.out) ?h1xxxx (by decide) ?h63xxxx ?hbyxxxx ?hbsxxxx _ rfl ?_
            case h1xxxx => intro u hu; rw [List.mem_singleton.1 hu]; rfl
            case h63xxxx => (have := HCL.out; unfold maxLen; omega)
            case hbyxxxx => (have := HCL.out; omega)
            case hbsxxxx => (have := HLA.out; omega)
            intro g2 c2 wn hown hgr _ _
            obtain ⟨hp8, hk8⟩ := HA7.out.push hcb hown hgr
            have HP8 := Lib.hid hp8
            clear hown hgr c0 f0 hp8
            obtain ⟨c0, f0⟩ := cell1 hk8
            clear hk8
            refine hK.out _ _ (trivial) (fun hHeld => ?_)
            clear hK K
            try simp only [Act.put, List.setIfInBounds_toArray]
            refine take1 (i := 7) (v := ?v6) (some 21) rfl rfl (by kernel_rfl) (by kernel_rfl) (by kernel_rfl) (fun _ _ _ h => h) (Or.inl ⟨by rfl, ?y6⟩) (by assumption) ?r6
            case y6 => (intro w hSw; (try dsimp only at hSw); go_simp; (first | done | with_reducible rfl))
            try simp only [Act.put, List.setIfInBounds_toArray, List.set_cons_zero, List.set_cons_succ]
            refine wpAnyH_ready (rs := [8]) (by kernel_rfl) (by simp) ?_
            refine AllReadyH.cons rfl (fun K hK => ?_) AllReadyH.nil
            go_simp
            clear c0 f0
            generalize wn.setCell ⟨W1.heap.size, 0, none⟩ (.slice (some ⟨g2, 0, none⟩) (cs.length + 1) c2) = wz at HP8 ⊢
            refine hK.out _ _ (trivial) (fun hHeld => ?_)
            clear hK K
            try simp only [Act.put]
            refine wpAnyH_done (by kernel_rfl) ?_ _
            go_wp2_with fail
            go_roundw
            case rel => exact ⟨k + 1, m + 2, some ⟨g2, 0, none⟩, c2, cs ++ [x], by omega, by go_num, by rw [List.length_append, List.length_singleton, HCL.out], by omega, HP8⟩
            case measure => simp [intOf]; omega
    · obtain rfl : k = N := by omega
      clear hlt hk
      have HKL : Hid (cs.length ≤ 7) := Lib.hid (by have := HCL.out; omega)
      go_wp2_with fail
      refine (pick_am 50 HA.out hcb (by omega) (by omega) (by omega) HR.out).mono ?_
      rintro e wp ⟨⟨r, rfl, r0, r1⟩, hp⟩
      have HP := Lib.hid hp
      clear hp
      by_cases q0 : r = 0
      · subst q0
        obtain ⟨c0, f0⟩ := cell1 HP.out.2.2.2.1
        have HLA := Lib.hid (lt_of_block HP.out.2.2.2.1)
        have HAL := Lib.hid (HP.out.alloc hcb (.cells #[.int .i64 1] 3))
        have HNB : Hid ((wp.alloc (.cells #[.int .i64 1] 3)).heap[wp.heap.size]? = some (.cells #[.int .i64 1] 3 (0, 0))) := Lib.hid (alloc_at rfl)
        go_wp2_with (at_builtin; refine wpList_append_lies _ (by rfl) _ _ _ (by rfl) (W1.heap.size + 1) 3 i0 (.int .i64 0) 1 8 Tryd.underlying25 hi hz0 hz1 hz2 rfl (by decide) _ cs.length _ (by rfl) HAL.out.2.2.2.2.1 ⟨wp.heap.size, 0, none⟩ 1 1 [.int .i64 1] (by rfl) (by rfl) (World.news_of_block HNB.out) ?y1 (by decide) ?y63 ?yby ?ybs _ rfl ?_)
        case y1 => intro u hu; rw [List.mem_singleton.1 hu]; rfl
        case y63 => (have := HCL.out; unfold maxLen; omega)
        case yby => (have := HCL.out; omega)
        case ybs => (have := lt_of_block HAL.out.2.2.2.1; omega)
        intro g2 c2 wn hown hgr _ _
        obtain ⟨hp8, hk8⟩ := HAL.out.push hcb hown hgr
        clear c0 f0
        obtain ⟨c0, f0⟩ := cell1 hk8
        obtain ⟨W8, hW8⟩ : ∃ W8, wn.setCell ⟨W1.heap.size, 0, none⟩ (.slice (some ⟨g2, 0, none⟩) (cs.length + 1) c2) = W8 := ⟨_, rfl⟩
        rw [hW8] at hp8
        have HP8 := Lib.hid hp8
        clear hk8 hown hgr hp8
        obtain ⟨z0, y0⟩ := cell1 HP8.out.2.2.1
        obtain ⟨d0, e0⟩ := cell1 HP8.out.2.2.2.1
        have hzl := lt_of_block HP8.out.2.2.1
        have HEND := Lib.hid (HP8.out.fin hcb)
        have HLE : Hid ((cs ++ [1]).length = cs.length + 1) := Lib.hid (by simp)
        go_wp2_with fail
        exact bodyPost_ret (v := .agg #[.slice (some ⟨g2, 0, none⟩) (cs.length + 1) c2]) (by simp [results, Tryd.results24, go_sem, z0]) rfl ⟨⟨_, _, rfl, by have h9 := HEND.out.1; rw [HLE.out] at h9 ⊢; exact h9, by have := HCL.out; rw [HLE.out]; omega⟩, by have h9 := HEND.out.2.1; rw [HLE.out] at h9; exact h9.more (by have := HCL.out; omega), by have h9 := HEND.out.2.2; rw [HLE.out] at h9; exact h9⟩
      · have q0' : (decide (r = 0)) = false := by simp [q0]
        by_cases q1 : r = 1
        · subst q1
          by_cases hz : cs.length = 0
          · obtain ⟨z0, y0⟩ := cell1 HP.out.2.2.1
            obtain ⟨c0, f0⟩ := cell1 HP.out.2.2.2.1
            have hzl := lt_of_block HP.out.2.2.1
            have HEND := Lib.hid (HP.out.fin hcb)
            have hz9 : ¬ (0 : Int) < (cs.length : Int) := by omega
            clear hz
            go_wp2_with fail
            exact bodyPost_ret (v := .agg #[.slice a cs.length cap]) (by simp [results, Tryd.results24, go_sem, z0]) rfl ⟨⟨_, _, rfl, HEND.out.1, by have := HKL.out; omega⟩, HEND.out.2.1.more (by have := HCL.out; omega), HEND.out.2.2⟩
          · obtain ⟨g, c', hv⟩ := own_some HP.out.2.2.2.2.1 (by omega)
            injection hv with hva hvb hvc
            subst hva hvc
            have hz9 : (0 : Int) < (cs.length : Int) := by omega
            obtain ⟨c0, f0⟩ := cell1 HP.out.2.2.2.1
            go_wp2_with fail
            refine wp_region_held_drew (S := (fun u => u.cell? ⟨W1.heap.size, 0, none⟩ = some (.slice (some ⟨g, 0, none⟩) cs.length cap))) (by kernel_rfl) (c0) (fun hHeld => ?_)
            have hp4 := HP.out.drew hcb
            generalize wp.drew = w4 at hp4 hHeld c0 f0 ⊢
            have HA4 := Lib.hid hp4
            clear hp4 c0 f0
            obtain ⟨c0, f0⟩ := cell1 HA4.out.2.2.2.1
            refine take1 (i := 0) (v := ?v7) (some 37) rfl rfl (by kernel_rfl) (by kernel_rfl) (by kernel_rfl) (fun _ _ _ h => h) (Or.inl ⟨by rfl, ?y7⟩) (by assumption) ?r7
            case y7 => (intro w hSw; (try dsimp only at hSw); go_simp; (first | done | with_reducible rfl))
            try simp only [Act.put, List.setIfInBounds_toArray, List.set_cons_zero, List.set_cons_succ]
            refine take1 (i := 1) (v := ?v8) (some 38) rfl rfl (by kernel_rfl) (by kernel_rfl) (by kernel_rfl) (fun _ _ _ h => h) (Or.inl ⟨by rfl, ?y8⟩) (by assumption) ?r8
            case y8 => (intro w hSw; (try dsimp only at hSw); go_simp; (first | done | with_reducible rfl))
            try simp only [Act.put, List.setIfInBounds_toArray, List.set_cons_zero, List.set_cons_succ]
            refine take1 (i := 2) (v := ?v9) (some 39) rfl rfl (by kernel_rfl) (by kernel_rfl) (by kernel_rfl) (fun _ _ _ h => h) (Or.inl ⟨by rfl, ?y9⟩) (by assumption) ?r9
            case y9 => (intro w hSw; (try dsimp only at hSw); go_simp; (first | done | with_reducible rfl))
            try simp only [Act.put, List.setIfInBounds_toArray, List.set_cons_zero, List.set_cons_succ]
            refine wpAnyH_ready (rs := [3]) (by kernel_rfl) (by simp) ?_
            refine AllReadyH.cons rfl (fun K hK => ?_) AllReadyH.nil
            go_simp
            have ha5 := HA4.out.alloc hcb (.cells (abZ.map (Value.int .i64)).toArray 3)
            have HSL := Lib.hid (slr_lit w4 (abZ.map (Value.int .i64)) 3 (by decide))
            have HNE : Hid (w4.heap.size ≠ cb) := Lib.hid (by have := HA4.out.1.size; omega)
            have HAM := Lib.hid (among_am (zs := abZ) ha5 hcb (by have := HCL.out; omega) (by decide) HSL.out (fun a m c e => by cases e; exact HNE.out) HR.out)
            have HA5 := Lib.hid ha5
            clear ha5 HSL c0 f0
            change K _ (w4.alloc (.cells (abZ.map (Value.int .i64)).toArray 3))
            generalize w4.alloc (.cells (abZ.map (Value.int .i64)).toArray 3) = w5 at HAM HA5 ⊢
            obtain ⟨c0, f0⟩ := cell1 HA5.out.2.2.2.1
            refine hK.out _ _ (c0) (fun hHeld => ?_)
            clear hK K
            try simp only [Act.put, List.setIfInBounds_toArray, List.set_cons_zero, List.set_cons_succ]
            refine wpAnyH_ready (rs := [4]) (by kernel_rfl) (by simp) ?_
            refine AllReadyH.cons rfl (fun K hK => ?_) AllReadyH.nil
            go_simp
            go_at_call 25
            refine (HAM.out).mono ?_
            rintro e w6 ⟨⟨x, rfl, -⟩, ha6⟩
            have HA6 := Lib.hid ha6
            clear ha6 c0 f0
            obtain ⟨c0, f0⟩ := cell1 HA6.out.2.2.2.1
            try go_simp
            refine hK.out _ _ (c0) (fun hHeld => ?_)
            clear hK K
            try simp only [Act.put, List.setIfInBounds_toArray, List.set_cons_zero, List.set_cons_succ]
            refine take1 (i := 5) (v := ?v10) (some 42) rfl rfl (by kernel_rfl) (by kernel_rfl) (by kernel_rfl) (fun _ _ _ h => h) (Or.inl ⟨by rfl, ?y10⟩) (by assumption) ?r10
            case y10 => (intro w hSw; (try dsimp only at hSw); go_simp; (first | done | with_reducible rfl))
            try simp only [Act.put, List.setIfInBounds_toArray, List.set_cons_zero, List.set_cons_succ]
            refine wpAnyH_ready (rs := [6]) (by kernel_rfl) (by simp) ?_
            refine AllReadyH.cons rfl (fun K hK => ?_) AllReadyH.nil
            have hf6 := HA6.out.first (y := x) hcb
            have HF6 := Lib.hid hf6
            clear hf6
            obtain ⟨x0, hx0⟩ : ∃ e, w6.cell? ⟨g, 0, none⟩ = some e := ⟨_, (HA6.out.2.2.2.2.1.cellAt 0 (by omega)).trans (List.getElem?_eq_getElem (by rw [flatC_len inC_len]; omega))⟩
            have f1 : w6.frozen? ⟨g, 0, none⟩ = false := HA6.out.2.2.2.2.1.frozenAt _
            go_simp
            generalize w6.setCell ⟨g, 0, none⟩ (.int .i64 x) = w7 at HF6 ⊢
            clear hx0 c0 f0 f1
            have HLE : Hid ((cs.set 0 x).length = cs.length) := Lib.hid List.length_set
            obtain ⟨c0, f0⟩ := cell1 HF6.out.2.2.2.1
            rw [HLE.out] at c0
            refine hK.out _ _ (c0) (fun hHeld => ?_)
            clear hK K
            try simp only [Act.put]
            refine wpAnyH_done (by kernel_rfl) ?_ _
            obtain ⟨z0, y0⟩ := cell1 HF6.out.2.2.1
            have hzl := lt_of_block HF6.out.2.2.1
            have HEND := Lib.hid (HF6.out.fin hcb)
            go_wp2_with fail
            exact bodyPost_ret (v := .agg #[.slice (some ⟨g, 0, none⟩) cs.length cap]) (by simp [results, Tryd.results24, go_sem, z0]) rfl ⟨⟨_, _, rfl, by have h9 := HEND.out.1; rw [HLE.out] at h9 ⊢; exact h9, by have := HKL.out; rw [HLE.out]; omega⟩, by have h9 := HEND.out.2.1; rw [HLE.out] at h9; exact h9.more (by have := HCL.out; omega), by have h9 := HEND.out.2.2; rw [HLE.out] at h9; exact h9⟩
        · obtain ⟨z0, y0⟩ := cell1 HP.out.2.2.1
          obtain ⟨c0, f0⟩ := cell1 HP.out.2.2.2.1
          have hzl := lt_of_block HP.out.2.2.1
          have HEND := Lib.hid (HP.out.fin hcb)
          go_wp2_with fail
          exact bodyPost_ret (v := .agg #[.slice a cs.length cap]) (by simp [results, Tryd.results24, go_sem, z0]) rfl ⟨⟨_, _, rfl, HEND.out.1, by have := HKL.out; omega⟩, HEND.out.2.1.more (by have := HCL.out; omega), HEND.out.2.2⟩
end Go.Proofs.YtghdmiimanhjgaaDoor
